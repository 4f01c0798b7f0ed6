/-
  Joined: Mrf, Mat, Rf8, RfT, RfU, Rf11.
-/
import Derived.Test.YtgmigeehfhkimaaDoorGMask
import Derived.Test.YtgmigeehfhkimaaDoorGL8
import Derived.Test.YtgmigeehfhkimaaDoorGMaskB
import Derived.Test.YtgmigeehfhkimaaDoorGPtA
import Derived.Test.YtgmigeehfhkimaaDoorGTrA
import Derived.Test.YtgmigeehfhkimaaDoorGTrB
import Derived.Test.YtgmigeehfhkimaaDoorGLeafA
import Derived.Test.YtgmigeehfhkimaaDoorGPrA
namespace Go.Proofs.YtgmigeehfhkimaaDoor
open Go.RowKit
set_option linter.unusedVariables false
set_option maxHeartbeats 1000000 in
theorem rmsane_any (s : ByteArray) (w : World) (hs : s.size ≤ maxLen) :
    Calls Tryd.prog 66 #[.string s] w fun e w' => e = .returned (.bool (saneM s)) ∧ w = w' := by
  unfold maxLen at hs
  go_enter Tryd.func66, Tryd.ntmps66
  go_wp2
  go_loopw [3] (fun i wr => ∃ k : Nat, k ≤ s.size ∧ i = .int .i64 k ∧ upB s k = true ∧ wr = w) (fun i _ => s.size - (intOf i).toNat)
  case atStart => exact ⟨0, by omega, rfl, rfl, rfl⟩
  case round =>
    obtain ⟨k, hk, rfl, hu, rfl⟩ := hrel
    have HU := Lib.hid hu
    clear hu
    by_cases hlt : k < s.size
    · have hbt := bt_at s k hlt
      have UN := Lib.hid (fun h => upB_no (s := s) (k := s.size) (i := k) hlt h)
      have UY := Lib.hid (show upB s (k + 1) = (upB s k && okB (bt s k)) from rfl)
      obtain ⟨b, eb⟩ : ∃ b, bt s k = b := ⟨_, rfl⟩
      rw [eb] at hbt UN UY
      clear eb
      have z1 : (0 : Int) ≤ (k : Int) := by omega
      have z2 : (k : Int) < s.size := by omega
      rcases Bool.eq_false_or_eq_true (okB b) with g | g
      · have UY2 := Lib.hid (show upB s (k + 1) = true by rw [UY.out, HU.out, g]; rfl)
        have g2 := ok_cases g
        clear g UN UY
        by_cases h1 : b = 88
        · have f1 : ((b : Int) != 88) = false := by simp; omega
          have f2 : 57 < b := by omega
          clear g2 h1
          go_wp2
          go_roundw
          case rel => exact ⟨k + 1, by omega, by go_num, UY2.out, trivial⟩
          case measure => simp [intOf]; omega
        · have f2 : 48 ≤ b := by omega
          have f3 : b ≤ 57 := by omega
          clear g2 h1
          go_wp2
          go_roundw
          case rel => exact ⟨k + 1, by omega, by go_num, UY2.out, trivial⟩
          case measure => simp [intOf]; omega
      · have NO := Lib.hid (show saneM s = false by unfold saneM; rw [UN.out g]; simp)
        have g2 := ok_no g
        have f1 : ((b : Int) != 88) = true := by simp; omega
        clear g UN UY
        rcases g2.2 with h | h
        · clear g2
          go_wp2
          go_ret
          exact ⟨ret_bool NO.out.symm, rfl⟩
        · have h' : 48 ≤ b := by omega
          clear g2
          go_wp2
          go_ret
          exact ⟨ret_bool NO.out.symm, rfl⟩
    · obtain rfl : k = s.size := by omega
      by_cases h1 : 1 ≤ s.size
      · by_cases h2 : s.size ≤ 4
        · have Y := Lib.hid (show saneM s = true by unfold saneM; rw [HU.out]; simp; omega)
          go_wp2
          go_ret
          exact ⟨ret_bool (by rw [Y.out]; simp; omega), rfl⟩
        · have Y := Lib.hid (show saneM s = false by unfold saneM; rw [HU.out]; simp; omega)
          go_wp2
          go_ret
          exact ⟨ret_bool (by rw [Y.out]; simp; omega), rfl⟩
      · have Y := Lib.hid (show saneM s = false by unfold saneM; rw [HU.out]; simp; omega)
        have h3 : s.size < 1 := by omega
        go_wp2
        go_ret
        exact ⟨ret_bool Y.out.symm, rfl⟩
theorem rmost_any (n : Nat) (w : World) (hn : n ≤ 4) :
    Calls Tryd.prog 74 #[.int .i64 n] w fun e w' => e = .returned (.int .i64 (P10 n)) ∧ w = w' := by
  go_enter Tryd.func74, Tryd.ntmps74
  go_wp2
  go_loopw [3, 4] (fun m i wr => ∃ k : Nat, k ≤ n ∧ i = .int .i64 k ∧ m = .int .i64 (P10 k) ∧ wr = w) (fun _ i _ => n - (intOf i).toNat)
  case atStart => exact ⟨0, by omega, rfl, rfl, rfl⟩
  case round =>
    obtain ⟨k, hk, rfl, rfl, rfl⟩ := hrel
    by_cases hlt : k < n
    · have p := P10_pos k
      have q := P10_le k (by omega)
      have S := Lib.hid (show P10 (k + 1) = 10 * P10 k from rfl)
      generalize P10 k = c at *
      go_wp2
      go_roundw
      case rel => exact ⟨k + 1, by omega, by go_num, by rw [S.out, Int.mul_comm], trivial⟩
      case measure => simp [intOf]; omega
    · obtain rfl : k = n := by omega
      go_wp2
      go_ret
      exact ⟨rfl, rfl⟩
/-- do the last signs fit -/
def fitD (s : ByteArray) (n : Int) : Nat → Bool
  | 0 => true
  | j + 1 => fitD s n j && fitB (bt s (s.size - 1 - j)) n (P10 j)
theorem fitD_at {s : ByteArray} {n : Int} {k : Nat} (h : fitD s n k = true) : ∀ j, j < k → fitB (bt s (s.size - 1 - j)) n (P10 j) = true := by
  induction k with
  | zero => intro j hj; omega
  | succ k ih =>
    intro j hj
    rw [fitD, Bool.and_eq_true] at h
    by_cases e : j = k
    · subst e; exact h.2
    · exact ih h.1 j (by omega)
theorem fitD_all {s : ByteArray} {n : Int} (h : fitD s n s.size = true) : fitsM s n s.size = true := fits_of fun i hi => by
  have := fitD_at h (s.size - 1 - i) (by omega)
  rwa [show s.size - 1 - (s.size - 1 - i) = i by omega] at this
theorem P10_split (n : Int) (j : Nat) : n / P10 j / 10 = n / P10 (j + 1) := by
  have := P10_pos j
  rw [P10, Int.ediv_ediv, if_neg (by omega), Int.sub_zero, Int.mul_comm]
set_option maxHeartbeats 2000000 in
theorem rmatch_any (s : ByteArray) (n : Int) (w : World) (hs : s.size ≤ maxLen) (nl : -9223372036854775808 ≤ n) (nh : n ≤ 9223372036854775807) :
    Calls Tryd.prog 71 #[.string s, .int .i64 n] w fun e w' => e = .returned (.bool (matchM s n)) ∧ w = w' := by
  have C := Lib.hid (rmsane_any s w hs)
  rcases Bool.eq_false_or_eq_true (saneM s) with h | h
  · rw [h] at C
    have M := mk_of h
    obtain ⟨m1, m2, m3⟩ := M
    have C2 := Lib.hid (rmost_any s.size w m2)
    have pb := P10_le s.size m2
    have pp := P10_pos s.size
    clear hs m3
    by_cases n0 : n < 0
    · have E1 := Lib.hid (show matchM s n = false by unfold matchM; rw [show decide (0 ≤ n) = false by simp; omega]; simp)
      clear h
      go_enter Tryd.func71, Tryd.ntmps71
      go_wp2_with fail; refine (C.out).mono ?_; rintro e w' ⟨rfl, rfl⟩
      go_wp2
      go_ret
      exact ⟨ret_bool E1.out.symm, rfl⟩
    have n0' : 0 ≤ n := by omega
    by_cases n1 : P10 s.size ≤ n
    · have E1 := Lib.hid (show matchM s n = false by unfold matchM; rw [show decide (n < P10 s.size) = false by simp; omega]; simp)
      generalize P10 s.size = c at *
      clear h n0
      go_enter Tryd.func71, Tryd.ntmps71
      go_wp2_with fail; refine (C.out).mono ?_; rintro e w' ⟨rfl, rfl⟩
      go_wp2_with fail; refine (C2.out).mono ?_; rintro e w' ⟨rfl, rfl⟩
      go_wp2
      go_ret
      exact ⟨ret_bool E1.out.symm, rfl⟩
    have n1' : n < P10 s.size := by omega
    have n2 : n < 10000 := by omega
    have E1 := Lib.hid (show matchM s n = fitsM s n s.size by unfold matchM; rw [h, show decide (0 ≤ n) = true by simp; omega, show decide (n < P10 s.size) = true by simp; omega]; simp)
    have D0 := Lib.hid (show n / P10 0 = n by rw [P10, Int.ediv_one])
    obtain ⟨c, hc⟩ : ∃ c, c = P10 s.size := ⟨_, rfl⟩
    rw [← hc] at C2 n1' pb pp
    clear h n0 n1 hc
    go_enter Tryd.func71, Tryd.ntmps71
    go_wp2_with fail; refine (C.out).mono ?_; rintro e w' ⟨rfl, rfl⟩
    go_wp2_with fail; refine (C2.out).mono ?_; rintro e w' ⟨rfl, rfl⟩
    go_wp2
    go_loopw [1, 5] (fun m i wr => ∃ p : Nat, p ≤ s.size ∧ i = .int .i64 ((p : Int) - 1) ∧ m = .int .i64 (n / P10 (s.size - p)) ∧ fitD s n (s.size - p) = true ∧ wr = w) (fun _ i _ => (intOf i + 1).toNat)
    case atStart => exact ⟨s.size, by omega, rfl, by rw [Nat.sub_self, D0.out], by rw [Nat.sub_self]; rfl, rfl⟩
    case round =>
      obtain ⟨p, hp, rfl, rfl, hf, rfl⟩ := hrel
      have HF := Lib.hid hf
      clear hf
      cases p with
      | zero =>
        have E2 := Lib.hid (show matchM s n = true by rw [E1.out]; exact fitD_all HF.out)
        go_wp2
        go_ret
        exact ⟨ret_bool E2.out.symm, rfl⟩
      | succ q =>
        rw [show (((q + 1 : Nat) : Int)) - 1 = (q : Int) by omega]
        have hqs : q < s.size := by omega
        have ej : s.size - (q + 1) + 1 = s.size - q := by omega
        have S := show fitD s n (s.size - (q + 1) + 1) = (fitD s n (s.size - (q + 1)) && fitB (bt s (s.size - 1 - (s.size - (q + 1)))) n (P10 (s.size - (q + 1)))) from rfl
        have DV := P10_split n (s.size - (q + 1))
        have SN := fun h => fitsM_no (s := s) (n := n) hqs h
        rw [ej] at S DV
        rw [show s.size - 1 - (s.size - (q + 1)) = q by omega] at S
        rw [show s.size - 1 - q = s.size - (q + 1) by omega] at SN
        have pj := P10_pos (s.size - (q + 1))
        have hbt := bt_at s q hqs
        obtain ⟨b, eb⟩ : ∃ b, bt s q = b := ⟨_, rfl⟩
        rw [eb] at S hbt SN
        have FB : fitB b n (P10 (s.size - (q + 1))) = ((b == 88) || ((b : Int) - 48 == n / P10 (s.size - (q + 1)) % 10)) := rfl
        have x0 : 0 ≤ n / P10 (s.size - (q + 1)) := Int.ediv_nonneg n0' (by omega)
        have x1 : n / P10 (s.size - (q + 1)) ≤ n := Int.ediv_le_self _ n0'
        obtain ⟨x, ex⟩ : ∃ x, n / P10 (s.size - (q + 1)) = x := ⟨_, rfl⟩
        rw [ex] at DV FB x0 x1 ⊢
        have bb : b < 256 := by rw [← hbt]; exact UInt8.toNat_lt _
        have z1 : (0 : Int) ≤ (q : Int) := by omega
        have z2 : (q : Int) < s.size := by omega
        have x2 : x ≤ 10000 := by omega
        have DVH := Lib.hid DV
        have SH := Lib.hid S
        have SNH := Lib.hid SN
        clear eb ex DV S SN x1 ej
        by_cases hx : b = 88
        · have g : ((b : Int) != 88) = false := by simp; omega
          have S2 := Lib.hid (show fitD s n (s.size - q) = true by rw [SH.out, HF.out, FB]; simp [hx])
          clear FB hx
          go_wp2
          go_roundw
          case rel => exact ⟨q, by omega, rfl, congrArg (Value.int .i64) DVH.out, S2.out, trivial⟩
          case measure => simp [intOf]
        · have g : ((b : Int) != 88) = true := by simp; omega
          rcases Bool.eq_false_or_eq_true ((b : Int) - 48 == x % 10) with f | f
          · have S2 := Lib.hid (show fitD s n (s.size - q) = true by rw [SH.out, HF.out, FB, f]; simp)
            have f2 : ((b : Int) - 48 != x % 10) = false := by simp at f ⊢; omega
            clear FB hx f
            go_wp2
            go_roundw
            case rel => exact ⟨q, by omega, rfl, congrArg (Value.int .i64) DVH.out, S2.out, trivial⟩
            case measure => simp [intOf]
          · have S2 := Lib.hid (show matchM s n = false by rw [E1.out]; exact SNH.out (by rw [FB, f]; simp; exact hx))
            have f2 : ((b : Int) - 48 != x % 10) = true := by simp at f ⊢; omega
            clear FB hx f
            go_wp2
            go_ret
            exact ⟨ret_bool S2.out.symm, rfl⟩
  · rw [h] at C
    have E1 := Lib.hid (show matchM s n = false by unfold matchM; rw [h]; rfl)
    clear h hs
    go_enter Tryd.func71, Tryd.ntmps71
    go_wp2_with fail; refine (C.out).mono ?_; rintro e w' ⟨rfl, rfl⟩
    go_wp2
    go_ret
    exact ⟨ret_bool E1.out.symm, rfl⟩
end Go.Proofs.YtgmigeehfhkimaaDoor

namespace Go.Proofs.YtgmigeehfhkimaaDoor
set_option linter.unusedVariables false
set_option linter.unusedSimpArgs false
theorem mt_sane_inn {l : List R} (h : sane l) {a b : Int} (g : ∀ n, memR l n → a ≤ n ∧ n ≤ b) : Inn a b l := by
  intro r hr
  obtain ⟨o1, o2, o3⟩ := sane_ok h r hr
  have g1 := g r.1 ⟨r, hr, Int.le_refl _, o1, by omega, by omega⟩
  have g2 := g r.2 ⟨r, hr, o1, Int.le_refl _, by omega, by omega⟩
  omega
theorem mt_inn (s : ByteArray) (most : Int) : Inn 1 most (matR s most) := mt_sane_inn (interR_sane _ _) fun n hn => by
  obtain ⟨_, r, hr, h1, h2, _⟩ := (interR_mem _ _ n).1 hn
  rw [List.mem_singleton.1 hr] at h1 h2
  exact ⟨h1, h2⟩
theorem mt_mem {l : List R} {a b : Int} (h : Inn a b l) (ha : -1000000000 ≤ a) (hb : b ≤ 1000000000) (n : Int) : memR l n ↔ inL l n := by
  constructor
  · rintro ⟨r, hr, h1, h2, _⟩
    exact ⟨r, hr, h1, h2⟩
  · rintro ⟨r, hr, h1, h2⟩
    have := h r hr
    exact ⟨r, hr, h1, h2, by omega, by omega⟩
theorem mt_set_inn (s : ByteArray) : Inn 0 9999 (setM s) := fun r hr => by have := (setM_gd s).1 r hr; omega
theorem mt_set (s : ByteArray) (n : Int) : inL (setM s) n ↔ matchM s n = true := by
  rw [← setM_has, has_sane (setM_sane s)]
  exact Iff.rfl
theorem mt_in (s : ByteArray) {most : Int} (hm : most ≤ 100) (n : Int) : inL (matR s most) n ↔ matchM s n = true ∧ 1 ≤ n ∧ n ≤ most := by
  rw [← mt_mem (mt_inn s most) (by decide) (by omega)]
  unfold matR
  rw [interR_mem, mt_mem (mt_set_inn s) (by decide) (by decide), mt_set]
  constructor
  · rintro ⟨h, r, hr, h1, h2, _⟩
    rw [List.mem_singleton.1 hr] at h1 h2
    exact ⟨h, h1, h2⟩
  · rintro ⟨h, h1, h2⟩
    exact ⟨h, (1, most), by simp, h1, h2, by omega, by omega⟩
end Go.Proofs.YtgmigeehfhkimaaDoor

namespace Go.Proofs.YtgmigeehfhkimaaDoor
open Go.RowKit
set_option linter.unusedVariables false
set_option linter.unusedSimpArgs false
/-- does a number from 1 up to one match -/
def anyM (s : ByteArray) : Nat → Bool
  | 0 => false
  | k + 1 => anyM s k || matchM s ((k + 1 : Nat) : Int)
theorem anyM_iff (s : ByteArray) : ∀ k, anyM s k = true ↔ ∃ i : Nat, 1 ≤ i ∧ i ≤ k ∧ matchM s i = true := by
  intro k
  induction k with
  | zero => simp [anyM]; intro i h1 h2; omega
  | succ k ih =>
    unfold anyM
    rw [Bool.or_eq_true, ih]
    constructor
    · rintro (⟨i, h1, h2, h3⟩ | h)
      · exact ⟨i, h1, by omega, h3⟩
      · exact ⟨k + 1, by omega, by omega, h⟩
    · rintro ⟨i, h1, h2, h3⟩
      by_cases e : i = k + 1
      · subst e; exact .inr h3
      · exact .inl ⟨i, h1, by omega, h3⟩
theorem anyM_mat (s : ByteArray) (m : Nat) (hm : m ≤ 100) : anyM s m = decide (0 < (matR s m).length) := by
  rw [Bool.eq_iff_iff, anyM_iff, decide_eq_true_eq]
  constructor
  · rintro ⟨i, h1, h2, h3⟩
    obtain ⟨r, hr, _⟩ := (mt_in s (most := (m : Int)) (by omega) i).2 ⟨h3, by omega, by omega⟩
    exact List.length_pos_of_mem hr
  · intro h
    obtain ⟨r, hr⟩ : ∃ r, r ∈ matR s m := by
      cases hq : matR s m with
      | nil => rw [hq] at h; simp at h
      | cons r t => exact ⟨r, by simp⟩
    have hi := mt_inn s m r hr
    obtain ⟨a, b, c⟩ := (mt_in s (most := (m : Int)) (by omega) r.1).1 ⟨r, hr, by omega, by omega⟩
    exact ⟨r.1.toNat, by omega, by omega, by rwa [Int.toNat_of_nonneg (by omega)]⟩
def somB (s : ByteArray) (n m : Nat) : Bool := decide (s.size = n) && anyM s m
theorem fit_som (s : ByteArray) (n m : Nat) (hn : n ≠ 0) (hm : m ≤ 100) : fitP s n m = somB s n m := by
  unfold fitP somB
  rw [if_neg (by omega), anyM_mat s m hm]
  congr 1
  exact decide_eq_decide.2 (by omega)
theorem sane8 (k : Int) (y m d : ByteArray) : saneP ⟨k, y, m, d⟩ = (saneM y && (
    if k = 0 then decide (y.size = 4) && (somB m 2 12 && somB d 2 31) else if k = 1 then decide (y.size = 4) && (somB m 2 12 && decide (d.size = 0)) else if k = 2 then decide (y.size = 4) && (somB m 1 4 && decide (d.size = 0))
    else if k = 3 then decide (y.size = 4) && (decide (m.size = 0) && decide (d.size = 0)) else if k = 4 then decide (y.size = 3) && (decide (m.size = 0) && decide (d.size = 0)) else if k = 5 then decide (y.size = 2) && (decide (m.size = 0) && decide (d.size = 0)) else false)) := by
  have z : ∀ (s : ByteArray) (n : Int), fitP s 0 n = decide (s.size = 0) := fun s n => by unfold fitP; rw [if_pos rfl]
  have a : fitP m 2 12 = somB m 2 12 := fit_som m 2 12 (by decide) (by decide)
  have b : fitP d 2 31 = somB d 2 31 := fit_som d 2 31 (by decide) (by decide)
  have c : fitP m 1 4 = somB m 1 4 := fit_som m 1 4 (by decide) (by decide)
  have q4 : decide ((y.size : Int) = 4) = decide (y.size = 4) := decide_eq_decide.2 (by omega)
  have q3 : decide ((y.size : Int) = 3) = decide (y.size = 3) := decide_eq_decide.2 (by omega)
  have q2 : decide ((y.size : Int) = 2) = decide (y.size = 2) := decide_eq_decide.2 (by omega)
  have sw : ∀ u v w : Bool, (u && (v && w)) = (v && (u && w)) := by intro u v w; cases u <;> cases v <;> rfl
  unfold saneP
  simp only
  by_cases h0 : k = 0
  · subst h0; simp only [shp, if_true]; rw [show decide ((0 : Int) ≤ 0 ∧ (0 : Int) < 6) = true by decide, Bool.true_and, sw]; congr 1; rw [q4, a, b]
  by_cases h1 : k = 1
  · subst h1; rw [if_neg h0, if_pos rfl]; simp only [shp, if_neg h0, if_true]; rw [show decide ((0 : Int) ≤ 1 ∧ (1 : Int) < 6) = true by decide, Bool.true_and, sw]; congr 1; rw [q4, a, z]
  by_cases h2 : k = 2
  · subst h2; rw [if_neg h0, if_neg h1, if_pos rfl]; simp only [shp, if_neg h0, if_neg h1, if_true]; rw [show decide ((0 : Int) ≤ 2 ∧ (2 : Int) < 6) = true by decide, Bool.true_and, sw]; congr 1; rw [q4, c, z]
  by_cases h3 : k = 3
  · subst h3; rw [if_neg h0, if_neg h1, if_neg h2, if_pos rfl]; simp only [shp, if_neg h0, if_neg h1, if_neg h2, if_true]; rw [show decide ((0 : Int) ≤ 3 ∧ (3 : Int) < 6) = true by decide, Bool.true_and, sw]; congr 1; rw [q4, z, z]
  by_cases h4 : k = 4
  · subst h4; rw [if_neg h0, if_neg h1, if_neg h2, if_neg h3, if_pos rfl]; simp only [shp, if_neg h0, if_neg h1, if_neg h2, if_neg h3, if_true]; rw [show decide ((0 : Int) ≤ 4 ∧ (4 : Int) < 6) = true by decide, Bool.true_and, sw]; congr 1; rw [q3, z, z]
  by_cases h5 : k = 5
  · subst h5; rw [if_neg h0, if_neg h1, if_neg h2, if_neg h3, if_neg h4, if_pos rfl]; simp only [shp, if_neg h0, if_neg h1, if_neg h2, if_neg h3, if_neg h4, if_true]; rw [show decide ((0 : Int) ≤ 5 ∧ (5 : Int) < 6) = true by decide, Bool.true_and, sw]; congr 1; rw [q2, z, z]
  rw [show decide (0 ≤ k ∧ k < 6) = false by simp; omega, if_neg h0, if_neg h1, if_neg h2, if_neg h3, if_neg h4, if_neg h5]
  simp
set_option maxHeartbeats 2000000 in
set_option maxRecDepth 100000 in
theorem rsom_any (s : ByteArray) (n m : Nat) (w : World) (hs : s.size ≤ maxLen) (hn : n ≤ 100) (hm : m ≤ 100) :
    Calls Tryd.prog 67 #[.string s, .int .i64 n, .int .i64 m] w fun e w' => e = .returned (.bool (somB s n m)) ∧ w = w' := by
  have hb : s.size ≤ 9223372036854775807 := hs
  by_cases h : s.size = n
  · have e1 : ((s.size : Int) != (n : Int)) = false := by simp; omega
    have HR := Lib.hid (show somB s n m = anyM s m by unfold somB; rw [decide_eq_true h, Bool.true_and])
    have C := Lib.hid (fun (i : Int) (h1 : 0 ≤ i) (h2 : i ≤ 200) => rmatch_any s i w hs (by omega) (by omega))
    clear h
    go_enter Tryd.func67, Tryd.ntmps67
    go_wp2
    go_loopw [7] (fun i ws => ∃ k : Nat, k ≤ m ∧ i = .int .i64 ((k : Int) + 1) ∧ anyM s k = false ∧ ws = w) (fun i _ => m + 1 - (intOf i).toNat)
    case atStart => exact ⟨0, Nat.zero_le _, rfl, rfl, rfl⟩
    case round =>
      obtain ⟨k, hk, rfl, ha, rfl⟩ := hrel
      have HA := Lib.hid ha
      clear ha
      by_cases hlt : k < m
      · have z1 : (k : Int) + 1 ≤ (m : Int) := by omega
        have C1 := C.out ((k : Int) + 1) (by omega) (by omega)
        have ES := Lib.hid (show anyM s (k + 1) = (anyM s k || matchM s ((k : Int) + 1)) from rfl)
        obtain ⟨b, hb2⟩ : ∃ b, matchM s ((k : Int) + 1) = b := ⟨_, rfl⟩
        rw [hb2] at C1
        have HB := Lib.hid hb2
        have CH := Lib.hid C1
        clear C1 hb2
        cases b with
        | false =>
          have E2 := Lib.hid (show anyM s (k + 1) = false by rw [ES.out, HA.out, HB.out]; rfl)
          go_wp2_with fail
          refine CH.out.mono ?_
          rintro e w' ⟨rfl, rfl⟩
          go_wp2
          go_roundw
          case rel => exact ⟨k + 1, hlt, by go_num, E2.out, trivial⟩
          case measure => simp [intOf]; omega
        | true =>
          have E2 := Lib.hid (show somB s n m = true by rw [HR.out, anyM_iff]; exact ⟨k + 1, by omega, by omega, HB.out⟩)
          go_wp2_with fail
          refine CH.out.mono ?_
          rintro e w' ⟨rfl, rfl⟩
          go_wp2
          go_ret
          exact ⟨ret_bool E2.out.symm, rfl⟩
      · obtain rfl : k = m := by omega
        have E2 := Lib.hid (show somB s n k = false by rw [HR.out, HA.out])
        go_wp2
        go_ret
        exact ⟨ret_bool E2.out.symm, rfl⟩
  · have e1 : ((s.size : Int) != (n : Int)) = true := by simp; omega
    have HR := Lib.hid (show somB s n m = false by unfold somB; rw [decide_eq_false h, Bool.false_and])
    clear h
    go_enter Tryd.func67, Tryd.ntmps67
    go_wp2
    go_ret
    exact ⟨ret_bool HR.out.symm, rfl⟩
set_option maxHeartbeats 16000000 in
set_option maxRecDepth 100000 in
theorem rsane8_0 (y m d : ByteArray) (w : World) (hy : y.size ≤ 10) (hm : m.size ≤ 10) (hd : d.size ≤ 10) : Calls Tryd.prog 61 #[.agg #[.int .i64 0, .string y, .string m, .string d]] w fun e w' => e = .returned (.bool (saneM y && (decide (y.size = 4) && (somB m 2 12 && somB d 2 31)))) ∧ Kp w w' := by
  have C0 := Lib.hid (fun w1 => rmsane_any y w1 (by unfold maxLen; omega))
  have SB : y.size ≤ 10 ∧ m.size ≤ 10 ∧ d.size ≤ 10 := ⟨hy, hm, hd⟩
  have q1 : ((y.size : Int) == 4) = decide (y.size = 4) := by
    by_cases h : y.size = 4
    · rw [decide_eq_true h, h]; rfl
    · rw [decide_eq_false h, beq_eq_false_iff_ne]; omega
  have C2 := Lib.hid (fun w1 => rsom_any m 2 12 w1 (by unfold maxLen; omega) (by decide) (by decide))
  have C3 := Lib.hid (fun w1 => rsom_any d 2 31 w1 (by unfold maxLen; omega) (by decide) (by decide))
  generalize saneM y = b0 at *
  generalize decide (y.size = 4) = b1 at *
  generalize somB m 2 12 = b2 at *
  generalize somB d 2 31 = b3 at *
  clear hy hm hd
  cases b0 with
  | false =>
    go_enter Tryd.func61, Tryd.ntmps61
    go_wp2_with fail
    refine (C0.out _).mono ?_
    rintro e w' ⟨rfl, rfl⟩
    go_wp2
    go_ret
    exact ⟨rfl, Kp.alloc _ _⟩
  | true =>
    cases b1 with
    | false =>
      go_enter Tryd.func61, Tryd.ntmps61
      go_wp2_with fail
      refine (C0.out _).mono ?_
      rintro e w' ⟨rfl, rfl⟩
      go_wp2
      go_ret
      exact ⟨rfl, Kp.alloc _ _⟩
    | true =>
      cases b2 with
      | false =>
        go_enter Tryd.func61, Tryd.ntmps61
        go_wp2_with fail
        refine (C0.out _).mono ?_
        rintro e w' ⟨rfl, rfl⟩
        go_wp2_with fail
        refine (C2.out _).mono ?_
        rintro e w' ⟨rfl, rfl⟩
        go_wp2
        go_ret
        exact ⟨rfl, Kp.alloc _ _⟩
      | true =>
        cases b3 with
        | false =>
          go_enter Tryd.func61, Tryd.ntmps61
          go_wp2_with fail
          refine (C0.out _).mono ?_
          rintro e w' ⟨rfl, rfl⟩
          go_wp2_with fail
          refine (C2.out _).mono ?_
          rintro e w' ⟨rfl, rfl⟩
          go_wp2_with fail
          refine (C3.out _).mono ?_
          rintro e w' ⟨rfl, rfl⟩
          go_wp2
          go_ret
          exact ⟨rfl, Kp.alloc _ _⟩
        | true =>
          go_enter Tryd.func61, Tryd.ntmps61
          go_wp2_with fail
          refine (C0.out _).mono ?_
          rintro e w' ⟨rfl, rfl⟩
          go_wp2_with fail
          refine (C2.out _).mono ?_
          rintro e w' ⟨rfl, rfl⟩
          go_wp2_with fail
          refine (C3.out _).mono ?_
          rintro e w' ⟨rfl, rfl⟩
          go_wp2
          go_ret
          exact ⟨rfl, Kp.alloc _ _⟩
set_option maxHeartbeats 16000000 in
set_option maxRecDepth 100000 in
theorem rsane8_1 (y m d : ByteArray) (w : World) (hy : y.size ≤ 10) (hm : m.size ≤ 10) (hd : d.size ≤ 10) : Calls Tryd.prog 61 #[.agg #[.int .i64 1, .string y, .string m, .string d]] w fun e w' => e = .returned (.bool (saneM y && (decide (y.size = 4) && (somB m 2 12 && decide (d.size = 0))))) ∧ Kp w w' := by
  have C0 := Lib.hid (fun w1 => rmsane_any y w1 (by unfold maxLen; omega))
  have SB : y.size ≤ 10 ∧ m.size ≤ 10 ∧ d.size ≤ 10 := ⟨hy, hm, hd⟩
  have q1 : ((y.size : Int) == 4) = decide (y.size = 4) := by
    by_cases h : y.size = 4
    · rw [decide_eq_true h, h]; rfl
    · rw [decide_eq_false h, beq_eq_false_iff_ne]; omega
  have C2 := Lib.hid (fun w1 => rsom_any m 2 12 w1 (by unfold maxLen; omega) (by decide) (by decide))
  have q3 : (d.toList == []) = decide (d.size = 0) := by rw [← str_empty]; cases d.toList <;> rfl
  generalize saneM y = b0 at *
  generalize decide (y.size = 4) = b1 at *
  generalize somB m 2 12 = b2 at *
  generalize decide (d.size = 0) = b3 at *
  clear hy hm hd
  cases b0 with
  | false =>
    go_enter Tryd.func61, Tryd.ntmps61
    go_wp2_with fail
    refine (C0.out _).mono ?_
    rintro e w' ⟨rfl, rfl⟩
    go_wp2
    go_ret
    exact ⟨rfl, Kp.alloc _ _⟩
  | true =>
    cases b1 with
    | false =>
      go_enter Tryd.func61, Tryd.ntmps61
      go_wp2_with fail
      refine (C0.out _).mono ?_
      rintro e w' ⟨rfl, rfl⟩
      go_wp2
      go_ret
      exact ⟨rfl, Kp.alloc _ _⟩
    | true =>
      cases b2 with
      | false =>
        go_enter Tryd.func61, Tryd.ntmps61
        go_wp2_with fail
        refine (C0.out _).mono ?_
        rintro e w' ⟨rfl, rfl⟩
        go_wp2_with fail
        refine (C2.out _).mono ?_
        rintro e w' ⟨rfl, rfl⟩
        go_wp2
        go_ret
        exact ⟨rfl, Kp.alloc _ _⟩
      | true =>
        cases b3 with
        | false =>
          go_enter Tryd.func61, Tryd.ntmps61
          go_wp2_with fail
          refine (C0.out _).mono ?_
          rintro e w' ⟨rfl, rfl⟩
          go_wp2_with fail
          refine (C2.out _).mono ?_
          rintro e w' ⟨rfl, rfl⟩
          go_wp2
          go_ret
          exact ⟨rfl, Kp.alloc _ _⟩
        | true =>
          go_enter Tryd.func61, Tryd.ntmps61
          go_wp2_with fail
          refine (C0.out _).mono ?_
          rintro e w' ⟨rfl, rfl⟩
          go_wp2_with fail
          refine (C2.out _).mono ?_
          rintro e w' ⟨rfl, rfl⟩
          go_wp2
          go_ret
          exact ⟨rfl, Kp.alloc _ _⟩
set_option maxHeartbeats 16000000 in
set_option maxRecDepth 100000 in
theorem rsane8_2 (y m d : ByteArray) (w : World) (hy : y.size ≤ 10) (hm : m.size ≤ 10) (hd : d.size ≤ 10) : Calls Tryd.prog 61 #[.agg #[.int .i64 2, .string y, .string m, .string d]] w fun e w' => e = .returned (.bool (saneM y && (decide (y.size = 4) && (somB m 1 4 && decide (d.size = 0))))) ∧ Kp w w' := by
  have C0 := Lib.hid (fun w1 => rmsane_any y w1 (by unfold maxLen; omega))
  have SB : y.size ≤ 10 ∧ m.size ≤ 10 ∧ d.size ≤ 10 := ⟨hy, hm, hd⟩
  have q1 : ((y.size : Int) == 4) = decide (y.size = 4) := by
    by_cases h : y.size = 4
    · rw [decide_eq_true h, h]; rfl
    · rw [decide_eq_false h, beq_eq_false_iff_ne]; omega
  have C2 := Lib.hid (fun w1 => rsom_any m 1 4 w1 (by unfold maxLen; omega) (by decide) (by decide))
  have q3 : (d.toList == []) = decide (d.size = 0) := by rw [← str_empty]; cases d.toList <;> rfl
  generalize saneM y = b0 at *
  generalize decide (y.size = 4) = b1 at *
  generalize somB m 1 4 = b2 at *
  generalize decide (d.size = 0) = b3 at *
  clear hy hm hd
  cases b0 with
  | false =>
    go_enter Tryd.func61, Tryd.ntmps61
    go_wp2_with fail
    refine (C0.out _).mono ?_
    rintro e w' ⟨rfl, rfl⟩
    go_wp2
    go_ret
    exact ⟨rfl, Kp.alloc _ _⟩
  | true =>
    cases b1 with
    | false =>
      go_enter Tryd.func61, Tryd.ntmps61
      go_wp2_with fail
      refine (C0.out _).mono ?_
      rintro e w' ⟨rfl, rfl⟩
      go_wp2
      go_ret
      exact ⟨rfl, Kp.alloc _ _⟩
    | true =>
      cases b2 with
      | false =>
        go_enter Tryd.func61, Tryd.ntmps61
        go_wp2_with fail
        refine (C0.out _).mono ?_
        rintro e w' ⟨rfl, rfl⟩
        go_wp2_with fail
        refine (C2.out _).mono ?_
        rintro e w' ⟨rfl, rfl⟩
        go_wp2
        go_ret
        exact ⟨rfl, Kp.alloc _ _⟩
      | true =>
        cases b3 with
        | false =>
          go_enter Tryd.func61, Tryd.ntmps61
          go_wp2_with fail
          refine (C0.out _).mono ?_
          rintro e w' ⟨rfl, rfl⟩
          go_wp2_with fail
          refine (C2.out _).mono ?_
          rintro e w' ⟨rfl, rfl⟩
          go_wp2
          go_ret
          exact ⟨rfl, Kp.alloc _ _⟩
        | true =>
          go_enter Tryd.func61, Tryd.ntmps61
          go_wp2_with fail
          refine (C0.out _).mono ?_
          rintro e w' ⟨rfl, rfl⟩
          go_wp2_with fail
          refine (C2.out _).mono ?_
          rintro e w' ⟨rfl, rfl⟩
          go_wp2
          go_ret
          exact ⟨rfl, Kp.alloc _ _⟩
set_option maxHeartbeats 16000000 in
set_option maxRecDepth 100000 in
theorem rsane8_3 (y m d : ByteArray) (w : World) (hy : y.size ≤ 10) (hm : m.size ≤ 10) (hd : d.size ≤ 10) : Calls Tryd.prog 61 #[.agg #[.int .i64 3, .string y, .string m, .string d]] w fun e w' => e = .returned (.bool (saneM y && (decide (y.size = 4) && (decide (m.size = 0) && decide (d.size = 0))))) ∧ Kp w w' := by
  have C0 := Lib.hid (fun w1 => rmsane_any y w1 (by unfold maxLen; omega))
  have SB : y.size ≤ 10 ∧ m.size ≤ 10 ∧ d.size ≤ 10 := ⟨hy, hm, hd⟩
  have q1 : ((y.size : Int) == 4) = decide (y.size = 4) := by
    by_cases h : y.size = 4
    · rw [decide_eq_true h, h]; rfl
    · rw [decide_eq_false h, beq_eq_false_iff_ne]; omega
  have q2 : (m.toList == []) = decide (m.size = 0) := by rw [← str_empty]; cases m.toList <;> rfl
  have q3 : (d.toList == []) = decide (d.size = 0) := by rw [← str_empty]; cases d.toList <;> rfl
  generalize saneM y = b0 at *
  generalize decide (y.size = 4) = b1 at *
  generalize decide (m.size = 0) = b2 at *
  generalize decide (d.size = 0) = b3 at *
  clear hy hm hd
  cases b0 with
  | false =>
    go_enter Tryd.func61, Tryd.ntmps61
    go_wp2_with fail
    refine (C0.out _).mono ?_
    rintro e w' ⟨rfl, rfl⟩
    go_wp2
    go_ret
    exact ⟨rfl, Kp.alloc _ _⟩
  | true =>
    cases b1 with
    | false =>
      go_enter Tryd.func61, Tryd.ntmps61
      go_wp2_with fail
      refine (C0.out _).mono ?_
      rintro e w' ⟨rfl, rfl⟩
      go_wp2
      go_ret
      exact ⟨rfl, Kp.alloc _ _⟩
    | true =>
      cases b2 with
      | false =>
        go_enter Tryd.func61, Tryd.ntmps61
        go_wp2_with fail
        refine (C0.out _).mono ?_
        rintro e w' ⟨rfl, rfl⟩
        go_wp2
        go_ret
        exact ⟨rfl, Kp.alloc _ _⟩
      | true =>
        cases b3 with
        | false =>
          go_enter Tryd.func61, Tryd.ntmps61
          go_wp2_with fail
          refine (C0.out _).mono ?_
          rintro e w' ⟨rfl, rfl⟩
          go_wp2
          go_ret
          exact ⟨rfl, Kp.alloc _ _⟩
        | true =>
          go_enter Tryd.func61, Tryd.ntmps61
          go_wp2_with fail
          refine (C0.out _).mono ?_
          rintro e w' ⟨rfl, rfl⟩
          go_wp2
          go_ret
          exact ⟨rfl, Kp.alloc _ _⟩
set_option maxHeartbeats 16000000 in
set_option maxRecDepth 100000 in
theorem rsane8_4 (y m d : ByteArray) (w : World) (hy : y.size ≤ 10) (hm : m.size ≤ 10) (hd : d.size ≤ 10) : Calls Tryd.prog 61 #[.agg #[.int .i64 4, .string y, .string m, .string d]] w fun e w' => e = .returned (.bool (saneM y && (decide (y.size = 3) && (decide (m.size = 0) && decide (d.size = 0))))) ∧ Kp w w' := by
  have C0 := Lib.hid (fun w1 => rmsane_any y w1 (by unfold maxLen; omega))
  have SB : y.size ≤ 10 ∧ m.size ≤ 10 ∧ d.size ≤ 10 := ⟨hy, hm, hd⟩
  have q1 : ((y.size : Int) == 3) = decide (y.size = 3) := by
    by_cases h : y.size = 3
    · rw [decide_eq_true h, h]; rfl
    · rw [decide_eq_false h, beq_eq_false_iff_ne]; omega
  have q2 : (m.toList == []) = decide (m.size = 0) := by rw [← str_empty]; cases m.toList <;> rfl
  have q3 : (d.toList == []) = decide (d.size = 0) := by rw [← str_empty]; cases d.toList <;> rfl
  generalize saneM y = b0 at *
  generalize decide (y.size = 3) = b1 at *
  generalize decide (m.size = 0) = b2 at *
  generalize decide (d.size = 0) = b3 at *
  clear hy hm hd
  cases b0 with
  | false =>
    go_enter Tryd.func61, Tryd.ntmps61
    go_wp2_with fail
    refine (C0.out _).mono ?_
    rintro e w' ⟨rfl, rfl⟩
    go_wp2
    go_ret
    exact ⟨rfl, Kp.alloc _ _⟩
  | true =>
    cases b1 with
    | false =>
      go_enter Tryd.func61, Tryd.ntmps61
      go_wp2_with fail
      refine (C0.out _).mono ?_
      rintro e w' ⟨rfl, rfl⟩
      go_wp2
      go_ret
      exact ⟨rfl, Kp.alloc _ _⟩
    | true =>
      cases b2 with
      | false =>
        go_enter Tryd.func61, Tryd.ntmps61
        go_wp2_with fail
        refine (C0.out _).mono ?_
        rintro e w' ⟨rfl, rfl⟩
        go_wp2
        go_ret
        exact ⟨rfl, Kp.alloc _ _⟩
      | true =>
        cases b3 with
        | false =>
          go_enter Tryd.func61, Tryd.ntmps61
          go_wp2_with fail
          refine (C0.out _).mono ?_
          rintro e w' ⟨rfl, rfl⟩
          go_wp2
          go_ret
          exact ⟨rfl, Kp.alloc _ _⟩
        | true =>
          go_enter Tryd.func61, Tryd.ntmps61
          go_wp2_with fail
          refine (C0.out _).mono ?_
          rintro e w' ⟨rfl, rfl⟩
          go_wp2
          go_ret
          exact ⟨rfl, Kp.alloc _ _⟩
set_option maxHeartbeats 16000000 in
set_option maxRecDepth 100000 in
theorem rsane8_5 (y m d : ByteArray) (w : World) (hy : y.size ≤ 10) (hm : m.size ≤ 10) (hd : d.size ≤ 10) : Calls Tryd.prog 61 #[.agg #[.int .i64 5, .string y, .string m, .string d]] w fun e w' => e = .returned (.bool (saneM y && (decide (y.size = 2) && (decide (m.size = 0) && decide (d.size = 0))))) ∧ Kp w w' := by
  have C0 := Lib.hid (fun w1 => rmsane_any y w1 (by unfold maxLen; omega))
  have SB : y.size ≤ 10 ∧ m.size ≤ 10 ∧ d.size ≤ 10 := ⟨hy, hm, hd⟩
  have q1 : ((y.size : Int) == 2) = decide (y.size = 2) := by
    by_cases h : y.size = 2
    · rw [decide_eq_true h, h]; rfl
    · rw [decide_eq_false h, beq_eq_false_iff_ne]; omega
  have q2 : (m.toList == []) = decide (m.size = 0) := by rw [← str_empty]; cases m.toList <;> rfl
  have q3 : (d.toList == []) = decide (d.size = 0) := by rw [← str_empty]; cases d.toList <;> rfl
  generalize saneM y = b0 at *
  generalize decide (y.size = 2) = b1 at *
  generalize decide (m.size = 0) = b2 at *
  generalize decide (d.size = 0) = b3 at *
  clear hy hm hd
  cases b0 with
  | false =>
    go_enter Tryd.func61, Tryd.ntmps61
    go_wp2_with fail
    refine (C0.out _).mono ?_
    rintro e w' ⟨rfl, rfl⟩
    go_wp2
    go_ret
    exact ⟨rfl, Kp.alloc _ _⟩
  | true =>
    cases b1 with
    | false =>
      go_enter Tryd.func61, Tryd.ntmps61
      go_wp2_with fail
      refine (C0.out _).mono ?_
      rintro e w' ⟨rfl, rfl⟩
      go_wp2
      go_ret
      exact ⟨rfl, Kp.alloc _ _⟩
    | true =>
      cases b2 with
      | false =>
        go_enter Tryd.func61, Tryd.ntmps61
        go_wp2_with fail
        refine (C0.out _).mono ?_
        rintro e w' ⟨rfl, rfl⟩
        go_wp2
        go_ret
        exact ⟨rfl, Kp.alloc _ _⟩
      | true =>
        cases b3 with
        | false =>
          go_enter Tryd.func61, Tryd.ntmps61
          go_wp2_with fail
          refine (C0.out _).mono ?_
          rintro e w' ⟨rfl, rfl⟩
          go_wp2
          go_ret
          exact ⟨rfl, Kp.alloc _ _⟩
        | true =>
          go_enter Tryd.func61, Tryd.ntmps61
          go_wp2_with fail
          refine (C0.out _).mono ?_
          rintro e w' ⟨rfl, rfl⟩
          go_wp2
          go_ret
          exact ⟨rfl, Kp.alloc _ _⟩
set_option maxHeartbeats 16000000 in
set_option maxRecDepth 100000 in
theorem rsane8_no (k : Int) (y m d : ByteArray) (w : World) (hy : y.size ≤ 10) (hm : m.size ≤ 10) (hd : d.size ≤ 10) (k0 : (k == 0) = false) (k1 : (k == 1) = false) (k2 : (k == 2) = false) (k3 : (k == 3) = false) (k4 : (k == 4) = false) (k5 : (k == 5) = false) : Calls Tryd.prog 61 #[.agg #[.int .i64 k, .string y, .string m, .string d]] w fun e w' => e = .returned (.bool (false)) ∧ Kp w w' := by
  have C0 := Lib.hid (fun w1 => rmsane_any y w1 (by unfold maxLen; omega))
  generalize saneM y = b0 at *
  clear hy hm hd
  cases b0 with
  | false =>
    go_enter Tryd.func61, Tryd.ntmps61
    go_wp2_with fail
    refine (C0.out _).mono ?_
    rintro e w' ⟨rfl, rfl⟩
    go_wp2
    go_ret
    exact ⟨rfl, Kp.alloc _ _⟩
  | true =>
    go_enter Tryd.func61, Tryd.ntmps61
    go_wp2_with fail
    refine (C0.out _).mono ?_
    rintro e w' ⟨rfl, rfl⟩
    go_wp2
    go_ret
    exact ⟨rfl, Kp.alloc _ _⟩
theorem rsane8_any (p : PT) (w : World) (hy : p.y.size ≤ 10) (hm : p.m.size ≤ 10) (hd : p.d.size ≤ 10) : Calls Tryd.prog 61 #[ptV p] w fun e w' => e = .returned (.bool (saneP p)) ∧ Kp w w' := by
  obtain ⟨k, y, m, d, rfl⟩ := pt_dest p
  rw [sane8]
  unfold ptV
  simp only at *
  by_cases h0 : k = 0
  · subst h0
    have := rsane8_0 y m d w hy hm hd
    simpa only [if_true] using this
  by_cases h1 : k = 1
  · subst h1
    have := rsane8_1 y m d w hy hm hd
    simpa only [if_neg (show ¬ (1 : Int) = 0 by decide), if_true] using this
  by_cases h2 : k = 2
  · subst h2
    have := rsane8_2 y m d w hy hm hd
    simpa only [if_neg (show ¬ (2 : Int) = 0 by decide), if_neg (show ¬ (2 : Int) = 1 by decide), if_true] using this
  by_cases h3 : k = 3
  · subst h3
    have := rsane8_3 y m d w hy hm hd
    simpa only [if_neg (show ¬ (3 : Int) = 0 by decide), if_neg (show ¬ (3 : Int) = 1 by decide), if_neg (show ¬ (3 : Int) = 2 by decide), if_true] using this
  by_cases h4 : k = 4
  · subst h4
    have := rsane8_4 y m d w hy hm hd
    simpa only [if_neg (show ¬ (4 : Int) = 0 by decide), if_neg (show ¬ (4 : Int) = 1 by decide), if_neg (show ¬ (4 : Int) = 2 by decide), if_neg (show ¬ (4 : Int) = 3 by decide), if_true] using this
  by_cases h5 : k = 5
  · subst h5
    have := rsane8_5 y m d w hy hm hd
    simpa only [if_neg (show ¬ (5 : Int) = 0 by decide), if_neg (show ¬ (5 : Int) = 1 by decide), if_neg (show ¬ (5 : Int) = 2 by decide), if_neg (show ¬ (5 : Int) = 3 by decide), if_neg (show ¬ (5 : Int) = 4 by decide), if_true] using this
  have := rsane8_no k y m d w hy hm hd (beq_eq_false_iff_ne.2 h0) (beq_eq_false_iff_ne.2 h1) (beq_eq_false_iff_ne.2 h2) (beq_eq_false_iff_ne.2 h3) (beq_eq_false_iff_ne.2 h4) (beq_eq_false_iff_ne.2 h5)
  rw [if_neg h0, if_neg h1, if_neg h2, if_neg h3, if_neg h4, if_neg h5, Bool.and_false]
  exact this
end Go.Proofs.YtgmigeehfhkimaaDoor

namespace Go.Proofs.YtgmigeehfhkimaaDoor
open Go.RowKit
set_option linter.unusedVariables false
set_option linter.unusedSimpArgs false
theorem short_sz {n : ND} (h : shortN n = true) : n.p.y.size ≤ 10 ∧ n.p.m.size ≤ 10 ∧ n.p.d.size ≤ 10 := by
  obtain ⟨k, p, a, t, l⟩ := n
  unfold shortN at h
  simp only [Bool.and_eq_true, decide_eq_true_eq] at h
  exact ⟨h.1.1, h.1.2.1, h.1.2.2⟩
theorem short_l {n : ND} (h : shortN n = true) : shortL n.l = true := by
  obtain ⟨k, p, a, t, l⟩ := n
  unfold shortN at h
  simp only [Bool.and_eq_true, decide_eq_true_eq] at h
  exact h.2
theorem short_at {l : List ND} (h : shortL l = true) {i : Nat} (hi : i < l.length) : shortN (nth l i) = true := by
  rw [shortL_all] at h
  exact List.all_eq_true.1 h _ (nth_mem hi)
set_option maxHeartbeats 16000000 in
set_option maxRecDepth 100000 in
theorem rend_any (n : ND) (v : Value) (w : World) (h : ∃ ad c, v = .slice ad n.l.length c) (hs : shortN n = true) : Calls Tryd.prog 53 #[ndV n v] w fun e w' => e = .returned (.bool (endN saneP n)) ∧ Kp w w' := by
  obtain ⟨ad, c, rfl⟩ := h
  obtain ⟨k, pk, y, m, d, a, t, l, rfl⟩ := nd_dest n
  obtain ⟨z0, z1, z2⟩ := short_sz hs
  have CB := Lib.hid (fun w1 => rbare_any (.mk k ⟨pk, y, m, d⟩ a t l) (.slice ad l.length c) w1)
  have CS := Lib.hid (fun w1 => show Calls Tryd.prog 61 #[.agg #[.int .i64 pk, .string y, .string m, .string d]] w1 _ from rsane8_any ⟨pk, y, m, d⟩ w1 z0 z1 z2)
  unfold endN
  unfold ndV at *
  simp only [ND.k, ND.p, ND.a, ND.t, ND.l] at *
  generalize bareN (.mk k ⟨pk, y, m, d⟩ a t l) = bb at *
  generalize saneP ⟨pk, y, m, d⟩ = ss at *
  have le : l.isEmpty = decide (l.length = 0) := by cases l <;> rfl
  rw [le]
  have li : decide ((0 : Int) < (l.length : Int)) = !decide (l.length = 0) := by
    by_cases h : l.length = 0
    · rw [h]; rfl
    · rw [decide_eq_false h, decide_eq_true (by omega)]; rfl
  generalize decide (l.length = 0) = lb at *
  clear hs z0 z1 z2
  cases lb with
  | false =>
    have li2 : decide ((0 : Int) < (l.length : Int)) = true := li
    have li3 : decide (0 < l.length) = true := by rw [← li2]; exact decide_eq_decide.2 (by omega)
    clear li
    go_enter Tryd.func53, Tryd.ntmps53
    go_wp2
    all_goals go_ret
    all_goals refine ⟨?_, Kp.alloc _ _⟩
    all_goals simp
  | true =>
    have li2 : decide ((0 : Int) < (l.length : Int)) = false := li
    have li3 : decide (0 < l.length) = false := by rw [← li2]; exact decide_eq_decide.2 (by omega)
    clear li
    by_cases h0 : k = 0
    · subst h0
      go_enter Tryd.func53, Tryd.ntmps53
      go_wp2_with fail
      refine (CS.out _).mono ?_
      rintro e w1 ⟨rfl, kk⟩
      have K1 := Lib.hid ((Kp.alloc _ _).trans kk)
      clear kk
      go_wp2
      go_ret
      refine ⟨?_, K1.out⟩
      simp
    · have q0 : (k == 0) = false := beq_eq_false_iff_ne.2 h0
      by_cases h3 : k = 3
      · subst h3
        go_enter Tryd.func53, Tryd.ntmps53
        go_wp2_with fail
        refine (CB.out _).mono ?_
        rintro e w1 ⟨rfl, kk⟩
        have K1 := Lib.hid ((Kp.alloc _ _).trans kk)
        clear kk
        go_wp2
        go_ret
        refine ⟨?_, K1.out⟩
        simp
      · have q3 : (k == 3) = false := beq_eq_false_iff_ne.2 h3
        by_cases h4 : k = 4
        · subst h4
          go_enter Tryd.func53, Tryd.ntmps53
          go_wp2_with fail
          refine (CB.out _).mono ?_
          rintro e w1 ⟨rfl, kk⟩
          have K1 := Lib.hid ((Kp.alloc _ _).trans kk)
          clear kk
          go_wp2
          go_ret
          refine ⟨?_, K1.out⟩
          simp
        · have q4 : (k == 4) = false := beq_eq_false_iff_ne.2 h4
          go_enter Tryd.func53, Tryd.ntmps53
          go_wp2
          go_ret
          refine ⟨?_, Kp.alloc _ _⟩
          simp_all
set_option maxHeartbeats 16000000 in
set_option maxRecDepth 100000 in
theorem rDeep_any (w0 : World) : ∀ {v : Value} {l : List ND}, NodesAt w0 v l → ∀ (k : Int) (p : PT) (a t : Bool) (w : World), Kp w0 w → cntL l ≤ 2000000 →
      Calls Tryd.prog 43 #[ndV (.mk k p a t l) v] w fun e w' => e = .returned (.int .i64 (depN (.mk k p a t l))) ∧ Kp w w' := by
  refine @NodesAt.ind w0 (fun v l => ∀ (k : Int) (p : PT) (a t : Bool) (w : World), Kp w0 w → cntL l ≤ 2000000 →
      Calls Tryd.prog 43 #[ndV (.mk k p a t l) v] w fun e w' => e = .returned (.int .i64 (depN (.mk k p a t l))) ∧ Kp w w') ?_
  rintro v l ⟨ad, cp, rfl, hrow⟩ k p a t w k0 hl
  have ll := len_cntL l
  obtain ⟨pk, y, m, q⟩ := p
  have HR := Lib.hid hrow
  unfold ndV at *
  simp only [ND.k, ND.p, ND.a, ND.t] at *
  obtain ⟨W0, hW⟩ : ∃ x, x = w.alloc (.cells #[.int .i64 k, .int .i64 pk, .string y, .string m, .string q, .bool a, .bool t, .slice ad l.length cp] 26) := ⟨_, rfl⟩
  have kw : Kp w W0 := by rw [hW]; exact Kp.alloc _ _
  have gB : W0.heap[w.heap.size]? = some (.cells #[.int .i64 k, .int .i64 pk, .string y, .string m, .string q, .bool a, .bool t, .slice ad l.length cp] 26 (0, 0)) := by rw [hW]; exact heap_at _ _ _ rfl
  have KW := Lib.hid kw
  have K0W := Lib.hid (k0.trans kw)
  have GB := Lib.hid (fun w1 (q : Kp W0 w1) => heap_block q gB)
  have HW := Lib.hid hW
  clear hrow k0 kw gB hW
  have ed : (depN (.mk k ⟨pk, y, m, q⟩ a t l) : Int) = (depL l : Int) + ((k == 2).toNat : Int) := by simp only [depN]; omega
  rw [ed]
  clear ed
  have dcl := dep_cntL l
  have HK : Hid (((k == 2).toNat : Int) = if k = 2 then 1 else 0) := Lib.hid (by by_cases h : k = 2 <;> simp [h])
  rw [HK.out]
  obtain ⟨res, hres⟩ : ∃ z : Int, (depL l : Int) + (if k = 2 then 1 else 0) = z := ⟨_, rfl⟩
  rw [hres]
  have HRES := Lib.hid hres
  clear hres
  go_enter Tryd.func43, Tryd.ntmps43
  go_wp2_with fail
  rw [← HW.out]
  obtain ⟨_, _, _, _, _, _, _, x7⟩ := row8 (GB.out _ (Kp.refl _))
  go_wp2
  go_loopw [3, 4] (fun s i ws => ∃ j : Nat, j ≤ l.length ∧ i = .int .i64 j ∧ s = .int .i64 (depL (l.take j) : Int) ∧ Hid (Kp W0 ws)) (fun _ i _ => l.length - (intOf i).toNat)
  case atStart => exact ⟨0, Nat.zero_le _, rfl, by simp [depL], Lib.hid (Kp.refl _)⟩
  case round =>
    clear x7
    obtain ⟨j, hj, rfl, rfl, KL⟩ := hrel
    by_cases hlt : j < l.length
    · obtain ⟨bk, off, rfl, hall⟩ := HR.out (by omega)
      obtain ⟨vi, hrow, hsub, ih⟩ := hall j hlt
      have kw0 : Kp w0 wr := K0W.out.trans KL.out
      obtain ⟨e0, e1, e2, e3, e4, e5, e6, e7⟩ := hrow.kp kw0
      have KW0 := Lib.hid kw0
      have ca := cnt_at hlt
      have ct := cntL_take hlt
      clear hall
      obtain ⟨x, hx⟩ : ∃ x, nth l j = x := ⟨_, rfl⟩
      rw [hx] at e0 e1 e2 e3 e4 e5 e6 ca ct ih hsub
      have NTH := Lib.hid hx
      clear hx hrow
      obtain ⟨k1, ⟨pk1, y1, m1, q1⟩, a1, t1, l1⟩ := x
      simp only [ND.k, ND.p, ND.a, ND.t, ND.l] at e0 e1 e2 e3 e4 e5 e6 ih hsub
      obtain ⟨ad1, cp1, rfl⟩ := hsub.slice
      have cc1 : cntN (.mk k1 ⟨pk1, y1, m1, q1⟩ a1 t1 l1) = cntL l1 + 1 := rfl
      have IHc := ih k1 ⟨pk1, y1, m1, q1⟩ a1 t1
      (try unfold ndV at IHc)
      simp only [ND.k, ND.p, ND.a, ND.t, ND.l] at IHc
      have IH := Lib.hid IHc
      have HC1 := Lib.hid (show cntL l1 ≤ 2000000 by omega)
      obtain ⟨_, _, _, _, _, _, _, x7⟩ := row8 (GB.out _ KL.out)
      have z1 : (j : Int) < (l.length : Int) := by omega
      have z3 : (0 : Int) ≤ (j : Int) := by omega
      have HLT := Lib.hid hlt
      clear kw0 ih hsub IHc
      have dt := Lib.hid (depL_take hlt)
      have da := dep_at hlt
      rw [NTH.out] at da
      have dx : depN (.mk k1 ⟨pk1, y1, m1, q1⟩ a1 t1 l1) ≤ 2000001 := by omega
      have dj : depL (l.take j) ≤ 2000001 := by have := depL_le (l := l) j; omega
      clear da
      go_wp2_with fail
      refine (IH.out _ KW0.out HC1.out).mono ?_
      rintro e w5 ⟨rfl, kk⟩
      have KL5 := Lib.hid (KL.out.trans kk)
      clear kk e0 e1 e2 e3 e4 e5 e6 e7 x7
      obtain ⟨dd, hdd⟩ : ∃ z, depN (.mk k1 ⟨pk1, y1, m1, q1⟩ a1 t1 l1) = z := ⟨_, rfl⟩
      obtain ⟨dk, hdk⟩ : ∃ z, depL (l.take j) = z := ⟨_, rfl⟩
      rw [hdd] at dx ⊢
      rw [hdk] at dj ⊢
      have HDD := Lib.hid hdd
      have HDK := Lib.hid hdk
      clear hdd hdk
      go_wp2
      go_roundw
      case rel => exact ⟨j + 1, HLT.out, by go_num, by rw [dt.out, NTH.out, HDD.out, HDK.out]; first | go_num | (congr 1; omega), KL5⟩
      case measure => have := HLT.out; simp [intOf]; omega
    · obtain rfl : j = l.length := by omega
      rw [List.take_length]
      obtain ⟨x0, _, _, _, _, _, _, x7⟩ := row8 (GB.out _ KL.out)
      by_cases hk : k = 2
      · have hr := HRES.out
        rw [if_pos hk] at hr
        have k2 : (k == 2) = true := by rw [hk]; rfl
        clear hk
        have HR2 := Lib.hid hr
        clear hr
        go_wp2
        go_ret
        exact ⟨by rw [← HR2.out]; first | rfl | (congr 2), KW.out.trans KL.out⟩
      · have hr := HRES.out
        rw [if_neg hk, Int.add_zero] at hr
        have k2 : (k == 2) = false := beq_eq_false_iff_ne.2 hk
        clear hk
        have HR2 := Lib.hid hr
        clear hr
        go_wp2
        go_ret
        exact ⟨by rw [← HR2.out]; first | rfl | (congr 2), KW.out.trans KL.out⟩
set_option maxHeartbeats 16000000 in
set_option maxRecDepth 100000 in
theorem rright_any (w0 : World) : ∀ {v : Value} {l : List ND}, NodesAt w0 v l → ∀ (k : Int) (p : PT) (a t : Bool) (w : World), Kp w0 w → (shortN (.mk k p a t l) = true ∧ cntL l ≤ 2000000) →
      Calls Tryd.prog 44 #[ndV (.mk k p a t l) v] w fun e w' => e = .returned (.bool (rightN saneP (.mk k p a t l))) ∧ Kp w w' := by
  refine @NodesAt.ind w0 (fun v l => ∀ (k : Int) (p : PT) (a t : Bool) (w : World), Kp w0 w → (shortN (.mk k p a t l) = true ∧ cntL l ≤ 2000000) →
      Calls Tryd.prog 44 #[ndV (.mk k p a t l) v] w fun e w' => e = .returned (.bool (rightN saneP (.mk k p a t l))) ∧ Kp w w') ?_
  rintro v l ⟨ad, cp, rfl, hrow⟩ k p a t w k0 hh
  have CE := Lib.hid (fun w1 => rend_any (.mk k p a t l) (.slice ad l.length cp) w1 ⟨_, _, rfl⟩ hh.1)
  have CB := Lib.hid (fun w1 => rbare_any (.mk k p a t l) (.slice ad l.length cp) w1)
  have SH := Lib.hid (fun i (hi : i < l.length) => (show shortN (nth l i) = true from short_at (short_l hh.1) hi))
  have hl := hh.2
  clear hh
  have ll := len_cntL l
  obtain ⟨pk, y, m, q⟩ := p
  have HR := Lib.hid hrow
  unfold ndV at *
  simp only [ND.k, ND.p, ND.a, ND.t] at *
  obtain ⟨W0, hW⟩ : ∃ x, x = w.alloc (.cells #[.int .i64 k, .int .i64 pk, .string y, .string m, .string q, .bool a, .bool t, .slice ad l.length cp] 26) := ⟨_, rfl⟩
  have kw : Kp w W0 := by rw [hW]; exact Kp.alloc _ _
  have gB : W0.heap[w.heap.size]? = some (.cells #[.int .i64 k, .int .i64 pk, .string y, .string m, .string q, .bool a, .bool t, .slice ad l.length cp] 26 (0, 0)) := by rw [hW]; exact heap_at _ _ _ rfl
  have KW := Lib.hid kw
  have K0W := Lib.hid (k0.trans kw)
  have GB := Lib.hid (fun w1 (q : Kp W0 w1) => heap_block q gB)
  have HW := Lib.hid hW
  clear hrow k0 kw gB hW
  by_cases h0 : k = 0
  · subst h0
    rw [show rightN saneP (.mk 0 ⟨pk, y, m, q⟩ a t l) = endN saneP (.mk 0 ⟨pk, y, m, q⟩ a t l) by simp [rightN]]
    go_enter Tryd.func44, Tryd.ntmps44
    go_wp2_with fail
    rw [← HW.out]
    obtain ⟨x0, x1, x2, x3, x4, x5, x6, x7⟩ := row8 (GB.out _ (Kp.refl _))
    go_wp2_with fail
    refine (CE.out _).mono ?_
    rintro e w1 ⟨rfl, kk⟩
    have K1 := Lib.hid (KW.out.trans kk)
    clear kk
    clear x0 x1 x2 x3 x4 x5 x6 x7
    go_wp2
    go_ret
    exact ⟨rfl, K1.out⟩
  have q0 : (k == 0) = false := beq_eq_false_iff_ne.2 h0
  by_cases h1 : k = 1
  · subst h1
    rw [show rightN saneP (.mk 1 ⟨pk, y, m, q⟩ a t l) = (bareN (.mk 1 ⟨pk, y, m, q⟩ a t l) && twoN saneP l) by simp [rightN]]
    generalize bareN (.mk 1 ⟨pk, y, m, q⟩ a t l) = bb at *
    cases bb with
    | false =>
      rw [Bool.false_and]
      go_enter Tryd.func44, Tryd.ntmps44
      go_wp2_with fail
      rw [← HW.out]
      obtain ⟨x0, x1, x2, x3, x4, x5, x6, x7⟩ := row8 (GB.out _ (Kp.refl _))
      go_wp2_with fail
      refine (CB.out _).mono ?_
      rintro e w1 ⟨rfl, kk⟩
      have K1 := Lib.hid (KW.out.trans kk)
      clear kk
      clear x0 x1 x2 x3 x4 x5 x6 x7
      go_wp2
      go_ret
      exact ⟨rfl, K1.out⟩
    | true =>
      rw [Bool.true_and]
      by_cases hl2 : l.length = 2
      · obtain ⟨x, z, rfl⟩ := two_of hl2
        obtain ⟨bk, off, rfl, hall⟩ := HR.out (by simp)
        obtain ⟨vx, rx, sx, _⟩ := hall 0 (by simp)
        obtain ⟨vz, rz, sz, _⟩ := hall 1 (by simp)
        have hx1 := SH.out 0 (by simp)
        have hz1 := SH.out 1 (by simp)
        rw [show nth [x, z] 0 = x from rfl] at rx sx hx1
        rw [show nth [x, z] 1 = z from rfl] at rz sz hz1
        have CX := Lib.hid (fun w1 => rend_any x vx w1 sx.slice hx1)
        have CZ := Lib.hid (fun w1 => rend_any z vz w1 sz.slice hz1)
        simp only [twoN]
        generalize endN saneP x = bx at *
        generalize endN saneP z = bz at *
        obtain ⟨adx, cpx, rfl⟩ := sx.slice
        obtain ⟨adz, cpz, rfl⟩ := sz.slice
        have RX := Lib.hid rx
        have RZ := Lib.hid rz
        obtain ⟨k1, ⟨pk1, y1, m1, q1⟩, a1, t1, l1⟩ := x
        obtain ⟨k2, ⟨pk2, y2, m2, q2⟩, a2, t2, l2⟩ := z
        unfold RowN at RX RZ
        unfold ndV at CX CZ
        simp only [ND.k, ND.p, ND.a, ND.t, ND.l, List.length_cons, List.length_nil, Nat.reduceAdd, Nat.zero_mul, Nat.add_zero, Nat.one_mul] at *
        clear rx rz sx sz hall HR hx1 hz1
        go_enter Tryd.func44, Tryd.ntmps44
        go_wp2_with fail
        rw [← HW.out]
        obtain ⟨x0, x1, x2, x3, x4, x5, x6, x7⟩ := row8 (GB.out _ (Kp.refl _))
        go_wp2_with fail
        refine (CB.out _).mono ?_
        rintro e w3 ⟨rfl, kk⟩
        have K3 := Lib.hid kk
        clear kk
        clear x0 x1 x2 x3 x4 x5 x6 x7
        obtain ⟨x0, x1, x2, x3, x4, x5, x6, x7⟩ := row8 (GB.out _ K3.out)
        have up : ∀ (w1 : World) (o : Nat) (x : Value), Kp w0 w1 → w0.cell? ⟨bk, o, none⟩ = some x → w1.cell? ⟨bk, o, none⟩ = some x := fun w1 o x q h => cell_up q h
        obtain ⟨g0, g1, g2, g3, g4, g5, g6, g7⟩ := RX.out
        have g0 := up _ _ _ (K0W.out.trans K3.out) g0
        have g1 := up _ _ _ (K0W.out.trans K3.out) g1
        have g2 := up _ _ _ (K0W.out.trans K3.out) g2
        have g3 := up _ _ _ (K0W.out.trans K3.out) g3
        have g4 := up _ _ _ (K0W.out.trans K3.out) g4
        have g5 := up _ _ _ (K0W.out.trans K3.out) g5
        have g6 := up _ _ _ (K0W.out.trans K3.out) g6
        have g7 := up _ _ _ (K0W.out.trans K3.out) g7
        go_wp2_with fail
        refine (CX.out _).mono ?_
        rintro e w4 ⟨rfl, kk⟩
        have K4 := Lib.hid (K3.out.trans kk)
        clear g0 g1 g2 g3 g4 g5 g6 g7 kk
        clear x0 x1 x2 x3 x4 x5 x6 x7
        obtain ⟨x0, x1, x2, x3, x4, x5, x6, x7⟩ := row8 (GB.out _ K4.out)
        cases bx with
        | false =>
          go_wp2
          go_ret
          exact ⟨rfl, KW.out.trans K4.out⟩
        | true =>
          obtain ⟨g0, g1, g2, g3, g4, g5, g6, g7⟩ := RZ.out
          have g0 := up _ _ _ (K0W.out.trans K4.out) g0
          have g1 := up _ _ _ (K0W.out.trans K4.out) g1
          have g2 := up _ _ _ (K0W.out.trans K4.out) g2
          have g3 := up _ _ _ (K0W.out.trans K4.out) g3
          have g4 := up _ _ _ (K0W.out.trans K4.out) g4
          have g5 := up _ _ _ (K0W.out.trans K4.out) g5
          have g6 := up _ _ _ (K0W.out.trans K4.out) g6
          have g7 := up _ _ _ (K0W.out.trans K4.out) g7
          go_wp2_with fail
          refine (CZ.out _).mono ?_
          rintro e w5 ⟨rfl, kk⟩
          have K5 := Lib.hid (K4.out.trans kk)
          clear g0 g1 g2 g3 g4 g5 g6 g7 kk
          clear x0 x1 x2 x3 x4 x5 x6 x7
          go_wp2
          go_ret
          exact ⟨rfl, KW.out.trans K5.out⟩
      · have ht : twoN saneP l = false := two_no hl2
        have ql : ((l.length : Int) == 2) = false := beq_eq_false_iff_ne.2 (by omega)
        rw [ht]
        go_enter Tryd.func44, Tryd.ntmps44
        go_wp2_with fail
        rw [← HW.out]
        obtain ⟨x0, x1, x2, x3, x4, x5, x6, x7⟩ := row8 (GB.out _ (Kp.refl _))
        go_wp2_with fail
        refine (CB.out _).mono ?_
        rintro e w1 ⟨rfl, kk⟩
        have K1 := Lib.hid kk
        clear kk
        clear x0 x1 x2 x3 x4 x5 x6 x7
        obtain ⟨x0, x1, x2, x3, x4, x5, x6, x7⟩ := row8 (GB.out _ K1.out)
        go_wp2
        go_ret
        exact ⟨rfl, KW.out.trans K1.out⟩
  have q1 : (k == 1) = false := beq_eq_false_iff_ne.2 h1
  by_cases h2 : k = 2
  · subst h2
    rw [show rightN saneP (.mk 2 ⟨pk, y, m, q⟩ a t l) = (bareN (.mk 2 ⟨pk, y, m, q⟩ a t l) && (!l.isEmpty && rightL saneP l)) by simp [rightN]]
    generalize bareN (.mk 2 ⟨pk, y, m, q⟩ a t l) = bb at *
    have SA := Lib.hid (rightL_all saneP l)
    have LE := Lib.hid (show (!l.isEmpty) = decide (1 ≤ l.length) by cases l <;> simp)
    obtain ⟨res, hres⟩ : ∃ r, rightL saneP l = r := ⟨_, rfl⟩
    rw [hres] at SA ⊢
    rw [LE.out]
    clear hres q0 q1 h0 h1
    go_enter Tryd.func44, Tryd.ntmps44
    go_wp2_with fail
    rw [← HW.out]
    obtain ⟨x0, x1, x2, x3, x4, x5, x6, x7⟩ := row8 (GB.out _ (Kp.refl _))
    go_wp2
    go_loopw [3] (fun i ws => ∃ j : Nat, j ≤ l.length ∧ i = .int .i64 j ∧ Hid (Kp W0 ws) ∧ Hid (∀ x, x < j → rightN saneP (nth l x) = true)) (fun i _ => l.length - (intOf i).toNat)
    case atStart => exact ⟨0, Nat.zero_le _, rfl, Lib.hid (Kp.refl _), Lib.hid (fun x hx => by omega)⟩
    case round =>
      clear x0 x1 x2 x3 x4 x5 x6 x7
      obtain ⟨j, hj, rfl, KL, LO⟩ := hrel
      by_cases hlt : j < l.length
      · obtain ⟨bk, off, rfl, hall⟩ := HR.out (by omega)
        obtain ⟨vi, hrow, hsub, ih⟩ := hall j hlt
        have kw0 : Kp w0 wr := K0W.out.trans KL.out
        obtain ⟨e0, e1, e2, e3, e4, e5, e6, e7⟩ := hrow.kp kw0
        have KW0 := Lib.hid kw0
        have hsj := SH.out j hlt
        have ca := cnt_at hlt
        have ct := cntL_take hlt
        clear hall
        obtain ⟨x, hx⟩ : ∃ x, nth l j = x := ⟨_, rfl⟩
        rw [hx] at e0 e1 e2 e3 e4 e5 e6 hsj ca ct ih hsub
        have NTH := Lib.hid hx
        clear hx hrow
        obtain ⟨k1, ⟨pk1, y1, m1, q1⟩, a1, t1, l1⟩ := x
        simp only [ND.k, ND.p, ND.a, ND.t, ND.l] at e0 e1 e2 e3 e4 e5 e6 ih hsub
        obtain ⟨ad1, cp1, rfl⟩ := hsub.slice
        have cc1 : cntN (.mk k1 ⟨pk1, y1, m1, q1⟩ a1 t1 l1) = cntL l1 + 1 := rfl
        have IHc := ih k1 ⟨pk1, y1, m1, q1⟩ a1 t1
        (try unfold ndV at IHc)
        simp only [ND.k, ND.p, ND.a, ND.t, ND.l] at IHc
        have IH := Lib.hid IHc
        have HC1 := Lib.hid (show shortN (.mk k1 ⟨pk1, y1, m1, q1⟩ a1 t1 l1) = true ∧ cntL l1 ≤ 2000000 from ⟨hsj, by omega⟩)
        obtain ⟨x0, x1, x2, x3, x4, x5, x6, x7⟩ := row8 (GB.out _ KL.out)
        have z1 : (j : Int) < (l.length : Int) := by omega
        have z3 : (0 : Int) ≤ (j : Int) := by omega
        have HLT := Lib.hid hlt
        clear kw0 ih hsub IHc hsj
        obtain ⟨sb, hsb⟩ : ∃ r, rightN saneP (.mk k1 ⟨pk1, y1, m1, q1⟩ a1 t1 l1) = r := ⟨_, rfl⟩
        have IHd := IH.out
        rw [hsb] at IHd
        have IH := Lib.hid IHd
        have HSB := Lib.hid hsb
        clear IHd hsb
        go_wp2_with fail
        refine (IH.out _ KW0.out HC1.out).mono ?_
        rintro e w5 ⟨rfl, kk⟩
        have KL5 := Lib.hid (KL.out.trans kk)
        clear kk e0 e1 e2 e3 e4 e5 e6 e7 x0 x1 x2 x3 x4 x5 x6 x7
        cases sb with
        | true =>
          go_wp2
          go_roundw
          case rel => exact ⟨j + 1, HLT.out, by go_num, KL5, Lib.hid (fun x hx => by
            by_cases hxj : x < j
            · exact LO.out x hxj
            · obtain rfl : x = j := by omega
              rw [NTH.out]; exact HSB.out)⟩
          case measure => have := HLT.out; simp [intOf]; omega
        | false =>
          obtain rfl : res = false := by
            rw [SA.out]
            rcases Bool.eq_false_or_eq_true (l.all (rightN saneP)) with h | h
            · have := List.all_eq_true.1 h _ (nth_mem HLT.out)
              rw [NTH.out, HSB.out] at this
              cases this
            · exact h
          go_wp2
          go_ret
          exact ⟨by simp, KW.out.trans KL5.out⟩
      · obtain rfl : j = l.length := by omega
        obtain rfl : res = true := by
          rw [SA.out, List.all_eq_true]
          intro x hx
          obtain ⟨i, hi, rfl⟩ := List.getElem_of_mem hx
          have := LO.out i hi
          have en : nth l i = l[i] := by unfold nth; simp [List.getD, hi]
          rw [← en]; exact this
        obtain ⟨x0, x1, x2, x3, x4, x5, x6, x7⟩ := row8 (GB.out _ KL.out)
        go_wp2_with fail
        refine (CB.out _).mono ?_
        rintro e w6 ⟨rfl, kk⟩
        have K6 := Lib.hid (KL.out.trans kk)
        clear kk
        clear x0 x1 x2 x3 x4 x5 x6 x7
        obtain ⟨x0, x1, x2, x3, x4, x5, x6, x7⟩ := row8 (GB.out _ K6.out)
        by_cases hp : 1 ≤ l.length
        · have z4 : decide ((1 : Int) ≤ (l.length : Int)) = true := decide_eq_true (by omega)
          cases bb <;>
          · go_wp2
            go_ret
            exact ⟨by simp [hp], KW.out.trans K6.out⟩
        · have z4 : decide ((1 : Int) ≤ (l.length : Int)) = false := decide_eq_false (by omega)
          cases bb <;>
          · go_wp2
            go_ret
            exact ⟨by simp [hp], KW.out.trans K6.out⟩
  have q2 : (k == 2) = false := beq_eq_false_iff_ne.2 h2
  rw [show rightN saneP (.mk k ⟨pk, y, m, q⟩ a t l) = false by simp only [rightN, q0, q1, q2, Bool.false_and, Bool.or_false]]
  go_enter Tryd.func44, Tryd.ntmps44
  go_wp2_with fail
  rw [← HW.out]
  obtain ⟨x0, x1, x2, x3, x4, x5, x6, x7⟩ := row8 (GB.out _ (Kp.refl _))
  go_wp2
  go_ret
  exact ⟨rfl, KW.out⟩
end Go.Proofs.YtgmigeehfhkimaaDoor

namespace Go.Proofs.YtgmigeehfhkimaaDoor
open Go.RowKit
set_option linter.unusedVariables false
set_option linter.unusedSimpArgs false
set_option maxHeartbeats 16000000 in
set_option maxRecDepth 100000 in
theorem rsaneN_any (n : ND) (v : Value) (w : World) (h : NodesAt w v n.l) (hs : shortN n = true) (hc : cntL n.l ≤ 2000000) :
    Calls Tryd.prog 29 #[ndV n v] w fun e w' => e = .returned (.bool (saneN saneP n)) ∧ Kp w w' := by
  have C1 := Lib.hid (fun w1 (qq : Kp w w1) => rCount_any w h n.k n.p n.a n.t w1 qq hc)
  have C2 := Lib.hid (fun w1 (qq : Kp w w1) => rDeep_any w h n.k n.p n.a n.t w1 qq hc)
  have C3 := Lib.hid (fun w1 (qq : Kp w w1) => rright_any w h n.k n.p n.a n.t w1 qq ⟨by rw [← eta_nd]; exact hs, hc⟩)
  have cb9 := cntN_mk n
  have db9 := dep_cnt n
  rw [← eta_nd n] at C1 C2 C3
  unfold saneN
  obtain ⟨cn, hcn⟩ : ∃ z, cntN n = z := ⟨_, rfl⟩
  obtain ⟨dn, hdn⟩ : ∃ z, depN n = z := ⟨_, rfl⟩
  rw [hcn] at C1 cb9 db9 ⊢
  rw [hdn] at C2 db9 ⊢
  generalize rightN saneP n = rb at *
  have ec : decide (cn ≤ 64) = decide ((cn : Int) ≤ 64) := decide_eq_decide.2 (by omega)
  have ed : decide (dn ≤ 8) = decide ((dn : Int) ≤ 8) := decide_eq_decide.2 (by omega)
  have cn9 : (cn : Int) ≤ 2000001 := by omega
  have dn9 : (dn : Int) ≤ 2000001 := by omega
  obtain ⟨cb, hcb⟩ : ∃ b, decide ((cn : Int) ≤ 64) = b := ⟨_, rfl⟩
  obtain ⟨db, hdb⟩ : ∃ b, decide ((dn : Int) ≤ 8) = b := ⟨_, rfl⟩
  rw [ec, ed, hcb, hdb]
  rw [hcb] at ec
  rw [hdb] at ed
  obtain ⟨ad, cp, rfl⟩ := h.slice
  obtain ⟨k, pk, y, m, q, a, t, l, rfl⟩ := nd_dest n
  unfold ndV at *
  simp only [ND.k, ND.p, ND.a, ND.t, ND.l] at *
  obtain ⟨W0, hW⟩ : ∃ x, x = w.alloc (.cells #[.int .i64 k, .int .i64 pk, .string y, .string m, .string q, .bool a, .bool t, .slice ad l.length cp] 26) := ⟨_, rfl⟩
  have kw : Kp w W0 := by rw [hW]; exact Kp.alloc _ _
  have gB : W0.heap[w.heap.size]? = some (.cells #[.int .i64 k, .int .i64 pk, .string y, .string m, .string q, .bool a, .bool t, .slice ad l.length cp] 26 (0, 0)) := by rw [hW]; exact heap_at _ _ _ rfl
  have GB := Lib.hid (fun w1 (q : Kp W0 w1) => heap_block q gB)
  have KW := Lib.hid kw
  have HW := Lib.hid hW
  clear kw gB hW h hs hc hcn hdn cb9 db9
  go_enter Tryd.func29, Tryd.ntmps29
  go_wp2_with fail
  rw [← HW.out]
  obtain ⟨x0, x1, x2, x3, x4, x5, x6, x7⟩ := row8 (GB.out _ (Kp.refl _))
  (try go_wp2_with fail)
  refine (C1.out _ KW.out).mono ?_
  rintro e w1 ⟨rfl, kk⟩
  have K1 := Lib.hid kk
  clear kk
  clear x0 x1 x2 x3 x4 x5 x6 x7
  obtain ⟨x0, x1, x2, x3, x4, x5, x6, x7⟩ := row8 (GB.out _ K1.out)
  cases cb with
  | false =>
    go_wp2
    go_ret
    exact ⟨rfl, KW.out.trans K1.out⟩
  | true =>
    go_wp2_with fail
    refine (C2.out _ (KW.out.trans K1.out)).mono ?_
    rintro e w2 ⟨rfl, kk⟩
    have K2 := Lib.hid (K1.out.trans kk)
    clear kk
    clear x0 x1 x2 x3 x4 x5 x6 x7
    obtain ⟨x0, x1, x2, x3, x4, x5, x6, x7⟩ := row8 (GB.out _ K2.out)
    cases db with
    | false =>
      go_wp2
      go_ret
      exact ⟨rfl, KW.out.trans K2.out⟩
    | true =>
      go_wp2_with fail
      refine (C3.out _ (KW.out.trans K2.out)).mono ?_
      rintro e w3 ⟨rfl, kk⟩
      have K3 := Lib.hid (K2.out.trans kk)
      clear kk
      clear x0 x1 x2 x3 x4 x5 x6 x7
      go_wp2
      go_ret
      exact ⟨rfl, KW.out.trans K3.out⟩
abbrev rfS0 : Oper := { dst := some 48, op := Go.Op.fieldAddr 26 (Go.Operand.tmp 2) 4, type := 0, pos := "ref.go:77", after := #[], guard := none }
abbrev rfS1 : Oper := { dst := some 49, op := Go.Op.load 24 (Go.Operand.tmp 48), type := 24, pos := "ref.go:77", after := #[{ on := 0, ground := Go.Ground.data }], guard := none }
abbrev rfS2 : Oper := { dst := some 50, op := Go.Op.move (Go.Operand.tmp 5), type := 3, pos := "ref.go:77", after := #[], guard := none }
abbrev rfS3 : Oper := { dst := some 51, op := Go.Op.indexAddr 24 (Go.Operand.tmp 49) (Go.Operand.tmp 50), type := 0, pos := "ref.go:77", after := #[{ on := 1, ground := Go.Ground.data }, { on := 2, ground := Go.Ground.data }], guard := none }
abbrev rfS4 : Oper := { dst := some 52, op := Go.Op.load 26 (Go.Operand.tmp 51), type := 26, pos := "ref.go:77", after := #[{ on := 3, ground := Go.Ground.data }], guard := none }
abbrev rfS5 : Oper := { dst := some 53, op := Go.Op.fieldAddr 26 (Go.Operand.tmp 3) 4, type := 0, pos := "ref.go:77", after := #[], guard := none }
abbrev rfS6 : Oper := { dst := some 54, op := Go.Op.load 24 (Go.Operand.tmp 53), type := 24, pos := "ref.go:77", after := #[{ on := 5, ground := Go.Ground.data }], guard := none }
abbrev rfS7 : Oper := { dst := some 55, op := Go.Op.move (Go.Operand.tmp 5), type := 3, pos := "ref.go:77", after := #[], guard := none }
abbrev rfS8 : Oper := { dst := some 56, op := Go.Op.indexAddr 24 (Go.Operand.tmp 54) (Go.Operand.tmp 55), type := 0, pos := "ref.go:77", after := #[{ on := 6, ground := Go.Ground.data }, { on := 7, ground := Go.Ground.data }], guard := none }
abbrev rfS9 : Oper := { dst := some 57, op := Go.Op.load 26 (Go.Operand.tmp 56), type := 26, pos := "ref.go:77", after := #[{ on := 8, ground := Go.Ground.data }], guard := none }
abbrev rfS10 : Oper := { dst := some 58, op := Go.Op.call { callee := Go.Callee.value (Go.Operand.func 32), args := #[Go.Operand.tmp 52, Go.Operand.tmp 57], argTypes := #[26, 26] }, type := 4, pos := "ref.go:77", after := #[{ on := 4, ground := Go.Ground.data }, { on := 9, ground := Go.Ground.data }], guard := none }
abbrev rfS11 : Oper := { dst := some 59, op := Go.Op.unOp Go.UnOp.not 4 (Go.Operand.tmp 58), type := 4, pos := "ref.go:77", after := #[{ on := 10, ground := Go.Ground.data }], guard := none }
set_option maxHeartbeats 16000000 in
set_option maxRecDepth 100000 in
theorem rSame_any (w0 : World) : ∀ {v : Value} {l : List ND}, NodesAt w0 v l → ∀ (k : Int) (p : PT) (a t : Bool) (n2 : ND) (u : Value) (w : World), NodesAt w0 u n2.l → Kp w0 w → cntL l ≤ 2000000 →
      Calls Tryd.prog 32 #[ndV (.mk k p a t l) v, ndV n2 u] w fun e w' => e = .returned (.bool (sameN (.mk k p a t l) n2)) ∧ Kp w w' := by
  refine @NodesAt.ind w0 (fun v l => ∀ (k : Int) (p : PT) (a t : Bool) (n2 : ND) (u : Value) (w : World), NodesAt w0 u n2.l → Kp w0 w → cntL l ≤ 2000000 →
        Calls Tryd.prog 32 #[ndV (.mk k p a t l) v, ndV n2 u] w fun e w' => e = .returned (.bool (sameN (.mk k p a t l) n2)) ∧ Kp w w') ?_
  rintro v l ⟨ad, cp, rfl, hrow⟩ k p a t n2 u w hu k0 hcl
  obtain ⟨pk, y, m, q⟩ := p
  have HR := Lib.hid hrow
  obtain ⟨ad', cp', rfl⟩ := hu.slice
  obtain ⟨k', pk', y', m', q', a', t', l', rfl⟩ := nd_dest n2
  have HU := Lib.hid hu
  unfold ndV at *
  simp only [ND.k, ND.p, ND.a, ND.t, ND.l] at *
  clear hrow hu
  by_cases hk : k = k'
  rotate_left
  · have e1 : (k != k') = true := by simpa using hk
    rw [same_no (show (.mk k ⟨pk, y, m, q⟩ a t l : ND) ≠ (.mk k' ⟨pk', y', m', q'⟩ a' t' l' : ND) by intro h; simp only [ND.mk.injEq] at h; exact hk h.1)]
    clear hk
    go_enter Tryd.func32, Tryd.ntmps32
    go_wp2
    go_ret
    exact ⟨rfl, (Kp.alloc _ _).trans (Kp.alloc _ _)⟩
  subst hk
  by_cases hf : pk = pk'
  rotate_left
  · rw [same_no (show (.mk k ⟨pk, y, m, q⟩ a t l : ND) ≠ (.mk k ⟨pk', y', m', q'⟩ a' t' l' : ND) by intro h; simp only [ND.mk.injEq] at h; exact hf (by have := h.2.1; simp only [PT.mk.injEq] at this; exact this.1))]
    have e1 : (pk == pk') = false := beq_eq_false_iff_ne.2 hf
    clear hf
    go_enter Tryd.func32, Tryd.ntmps32
    go_wp2
    go_ret
    exact ⟨rfl, (Kp.alloc _ _).trans (Kp.alloc _ _)⟩
  subst hf
  by_cases hf : y = y'
  rotate_left
  · rw [same_no (show (.mk k ⟨pk, y, m, q⟩ a t l : ND) ≠ (.mk k ⟨pk, y', m', q'⟩ a' t' l' : ND) by intro h; simp only [ND.mk.injEq] at h; exact hf (by have := h.2.1; simp only [PT.mk.injEq] at this; exact this.2.1))]
    have e1 : (y.toList == y'.toList) = false := by
      rcases Bool.eq_false_or_eq_true (y.toList == y'.toList) with e | e
      · exact absurd ((bytes_iff _ _).1 e) hf
      · exact e
    clear hf
    go_enter Tryd.func32, Tryd.ntmps32
    go_wp2
    go_ret
    exact ⟨rfl, (Kp.alloc _ _).trans (Kp.alloc _ _)⟩
  subst hf
  by_cases hf : m = m'
  rotate_left
  · rw [same_no (show (.mk k ⟨pk, y, m, q⟩ a t l : ND) ≠ (.mk k ⟨pk, y, m', q'⟩ a' t' l' : ND) by intro h; simp only [ND.mk.injEq] at h; exact hf (by have := h.2.1; simp only [PT.mk.injEq] at this; exact this.2.2.1))]
    have e1 : (m.toList == m'.toList) = false := by
      rcases Bool.eq_false_or_eq_true (m.toList == m'.toList) with e | e
      · exact absurd ((bytes_iff _ _).1 e) hf
      · exact e
    clear hf
    go_enter Tryd.func32, Tryd.ntmps32
    go_wp2
    go_ret
    exact ⟨rfl, (Kp.alloc _ _).trans (Kp.alloc _ _)⟩
  subst hf
  by_cases hf : q = q'
  rotate_left
  · rw [same_no (show (.mk k ⟨pk, y, m, q⟩ a t l : ND) ≠ (.mk k ⟨pk, y, m, q'⟩ a' t' l' : ND) by intro h; simp only [ND.mk.injEq] at h; exact hf (by have := h.2.1; simp only [PT.mk.injEq] at this; exact this.2.2.2))]
    have e1 : (q.toList == q'.toList) = false := by
      rcases Bool.eq_false_or_eq_true (q.toList == q'.toList) with e | e
      · exact absurd ((bytes_iff _ _).1 e) hf
      · exact e
    clear hf
    go_enter Tryd.func32, Tryd.ntmps32
    go_wp2
    go_ret
    exact ⟨rfl, (Kp.alloc _ _).trans (Kp.alloc _ _)⟩
  subst hf
  by_cases ha : a = a'
  rotate_left
  · rw [same_no (show (.mk k ⟨pk, y, m, q⟩ a t l : ND) ≠ (.mk k ⟨pk, y, m, q⟩ a' t' l' : ND) by intro h; simp only [ND.mk.injEq] at h; exact ha h.2.2.1)]
    cases a <;> cases a'
    · exact absurd rfl ha
    · clear ha
      go_enter Tryd.func32, Tryd.ntmps32
      go_wp2
      go_ret
      exact ⟨rfl, (Kp.alloc _ _).trans (Kp.alloc _ _)⟩
    · clear ha
      go_enter Tryd.func32, Tryd.ntmps32
      go_wp2
      go_ret
      exact ⟨rfl, (Kp.alloc _ _).trans (Kp.alloc _ _)⟩
    · exact absurd rfl ha
  subst ha
  by_cases ht : t = t'
  rotate_left
  · rw [same_no (show (.mk k ⟨pk, y, m, q⟩ a t l : ND) ≠ (.mk k ⟨pk, y, m, q⟩ a t' l' : ND) by intro h; simp only [ND.mk.injEq] at h; exact ht h.2.2.2.1)]
    cases t <;> cases t'
    · exact absurd rfl ht
    · clear ht
      go_enter Tryd.func32, Tryd.ntmps32
      go_wp2
      go_ret
      exact ⟨rfl, (Kp.alloc _ _).trans (Kp.alloc _ _)⟩
    · clear ht
      go_enter Tryd.func32, Tryd.ntmps32
      go_wp2
      go_ret
      exact ⟨rfl, (Kp.alloc _ _).trans (Kp.alloc _ _)⟩
    · exact absurd rfl ht
  subst ht
  by_cases hl : l.length = l'.length
  rotate_left
  · have e1 : ((l.length : Int) != (l'.length : Int)) = true := by rw [bne_iff_ne]; omega
    rw [same_no (show (.mk k ⟨pk, y, m, q⟩ a t l : ND) ≠ (.mk k ⟨pk, y, m, q⟩ a t l' : ND) by intro h; simp only [ND.mk.injEq] at h; exact hl (congrArg List.length h.2.2.2.2))]
    clear hl
    go_enter Tryd.func32, Tryd.ntmps32
    go_wp2
    go_ret
    exact ⟨rfl, (Kp.alloc _ _).trans (Kp.alloc _ _)⟩
  have hlen : l.length = l'.length := hl
  have SA := Lib.hid (sameL_at (l := l) (m := l') hlen)
  have HLEN := Lib.hid hlen
  have SE := Lib.hid (show sameN (.mk k ⟨pk, y, m, q⟩ a t l : ND) (.mk k ⟨pk, y, m, q⟩ a t l') = sameL l l' by simp [sameN, (eqP_iff _ _).2 rfl])
  rw [SE.out]
  obtain ⟨res, hres⟩ : ∃ r, sameL l l' = r := ⟨_, rfl⟩
  rw [hres] at SA ⊢
  have ql : ((l.length : Int) != (l'.length : Int)) = false := by rw [hlen]; simp
  have ll := len_cntL l
  obtain ⟨W0, hW⟩ : ∃ x, x = (w.alloc (.cells #[.int .i64 k, .int .i64 pk, .string y, .string m, .string q, .bool a, .bool t, .slice ad l.length cp] 26)).alloc (.cells #[.int .i64 k, .int .i64 pk, .string y, .string m, .string q, .bool a, .bool t, .slice ad' l'.length cp'] 26) := ⟨_, rfl⟩
  have kw : Kp w W0 := by rw [hW]; exact (Kp.alloc _ _).trans (Kp.alloc _ _)
  have gA : W0.heap[w.heap.size]? = some (.cells #[.int .i64 k, .int .i64 pk, .string y, .string m, .string q, .bool a, .bool t, .slice ad l.length cp] 26 (0, 0)) := by rw [hW]; exact heap_block (Kp.alloc _ _) (heap_at _ _ _ rfl)
  have gB : W0.heap[w.heap.size + 1]? = some (.cells #[.int .i64 k, .int .i64 pk, .string y, .string m, .string q, .bool a, .bool t, .slice ad' l'.length cp'] 26 (0, 0)) := by rw [hW]; exact heap_at _ _ _ (by simp)
  have GA := Lib.hid gA
  have GB := Lib.hid gB
  have KW := Lib.hid kw
  have K0W := Lib.hid (k0.trans kw)
  have HW := Lib.hid hW
  clear hres hlen hl kw gA gB hW k0
  go_enter Tryd.func32, Tryd.ntmps32
  go_wp2
  rw [← HW.out]
  go_loopw [5] (fun s ws => ∃ i : Nat, i ≤ l.length ∧ s = .int .i64 i ∧ Hid (Kp W0 ws) ∧ Hid (∀ x, x < i → sameN (nth l x) (nth l' x) = true)) (fun s _ => l.length - (intOf s).toNat)
  case atStart => exact ⟨0, Nat.zero_le _, rfl, Lib.hid (Kp.refl _), Lib.hid (fun x hx => by omega)⟩
  case round =>
    obtain ⟨i, hi, rfl, KL, LO⟩ := hrel
    by_cases hlt : i < l.length
    · have hlt2 : i < l'.length := by rw [← HLEN.out]; exact hlt
      obtain ⟨bk, of, rfl, hall⟩ := HR.out (by omega)
      obtain ⟨vi, hrow, hsub, ih⟩ := hall i hlt
      obtain ⟨bk', of', vi', rfl, hrow', hsub'⟩ := HU.out.get hlt2
      have kw0 : Kp w0 wr := K0W.out.trans KL.out
      obtain ⟨e0, e1, e2, e3, e4, e5, e6, e7⟩ := hrow.kp kw0
      obtain ⟨d0, d1, d2, d3, d4, d5, d6, d7⟩ := hrow'.kp kw0
      have KW0 := Lib.hid kw0
      have ca := cnt_at hlt
      have SAB := Lib.hid (fun (h : res = true) => SA.out.1 h i hlt)
      clear hall
      obtain ⟨x, hx⟩ : ∃ x, nth l i = x := ⟨_, rfl⟩
      obtain ⟨z, hz⟩ : ∃ x, nth l' i = x := ⟨_, rfl⟩
      rw [hx, hz] at SAB
      rw [hx] at e0 e1 e2 e3 e4 e5 e6 ca ih hsub
      rw [hz] at d0 d1 d2 d3 d4 d5 d6 hsub'
      have NTH := Lib.hid hx
      have NTZ := Lib.hid hz
      have cc1 := cntN_mk x
      clear hx hz hrow hrow'
      obtain ⟨k1, ⟨pk1, yk1, mk1, qk1⟩, ak1, tk1, lk1⟩ := x
      obtain ⟨j1, ⟨pj1, yj1, mj1, qj1⟩, aj1, tj1, lj1⟩ := z
      simp only [ND.k, ND.p, ND.a, ND.t, ND.l] at e0 e1 e2 e3 e4 e5 e6 ih hsub cc1
      simp only [ND.k, ND.p, ND.a, ND.t, ND.l] at d0 d1 d2 d3 d4 d5 d6 hsub'
      obtain ⟨adk1, cpk1, rfl⟩ := hsub.slice
      obtain ⟨adj1, cpj1, rfl⟩ := hsub'.slice
      obtain ⟨sb, hsb⟩ : ∃ r, sameN (.mk k1 ⟨pk1, yk1, mk1, qk1⟩ ak1 tk1 lk1) (.mk j1 ⟨pj1, yj1, mj1, qj1⟩ aj1 tj1 lj1) = r := ⟨_, rfl⟩
      have IHc := fun w1 (qq : Kp w0 w1) hc => ih k1 ⟨pk1, yk1, mk1, qk1⟩ ak1 tk1 (.mk j1 ⟨pj1, yj1, mj1, qj1⟩ aj1 tj1 lj1) (.slice adj1 lj1.length cpj1) w1 hsub' qq hc
      rw [hsb] at IHc SAB
      have HSB := Lib.hid hsb
      (try unfold ndV at IHc)
      simp only [ND.k, ND.p, ND.a, ND.t, ND.l] at IHc
      have IH := Lib.hid IHc
      have HB1 := Lib.hid (show cntL lk1 ≤ 2000000 by omega)
      have ga := (row8 (heap_block KL.out GA.out)).2.2.2.2.2.2.2
      have gb := (row8 (heap_block KL.out GB.out)).2.2.2.2.2.2.2
      have z1 : (i : Int) < (l.length : Int) := by omega
      have z2 : (i : Int) < (l'.length : Int) := by omega
      have z3 : (0 : Int) ≤ (i : Int) := by omega
      have HLT := Lib.hid hlt
      have KS := Lib.hid (fun w' (qq : Kp wr w') => show w'.cell? ⟨bk, of + i * 8, none⟩ = some (.int .i64 k1) ∧ w'.cell? ⟨bk, of + i * 8 + 1, none⟩ = some (.int .i64 pk1) ∧ w'.cell? ⟨bk, of + i * 8 + 2, none⟩ = some (.string yk1) ∧ w'.cell? ⟨bk, of + i * 8 + 3, none⟩ = some (.string mk1) ∧ w'.cell? ⟨bk, of + i * 8 + 4, none⟩ = some (.string qk1) ∧ w'.cell? ⟨bk, of + i * 8 + 5, none⟩ = some (.bool ak1) ∧ w'.cell? ⟨bk, of + i * 8 + 6, none⟩ = some (.bool tk1) ∧ w'.cell? ⟨bk, of + i * 8 + 7, none⟩ = some (.slice adk1 lk1.length cpk1) ∧ w'.cell? ⟨bk', of' + i * 8, none⟩ = some (.int .i64 j1) ∧ w'.cell? ⟨bk', of' + i * 8 + 1, none⟩ = some (.int .i64 pj1) ∧ w'.cell? ⟨bk', of' + i * 8 + 2, none⟩ = some (.string yj1) ∧ w'.cell? ⟨bk', of' + i * 8 + 3, none⟩ = some (.string mj1) ∧ w'.cell? ⟨bk', of' + i * 8 + 4, none⟩ = some (.string qj1) ∧ w'.cell? ⟨bk', of' + i * 8 + 5, none⟩ = some (.bool aj1) ∧ w'.cell? ⟨bk', of' + i * 8 + 6, none⟩ = some (.bool tj1) ∧ w'.cell? ⟨bk', of' + i * 8 + 7, none⟩ = some (.slice adj1 lj1.length cpj1) ∧ w'.cell? ⟨w.heap.size, 7, none⟩ = some (.slice (some ⟨bk, of, none⟩) l.length cp) ∧ w'.cell? ⟨w.heap.size + 1, 7, none⟩ = some (.slice (some ⟨bk', of', none⟩) l'.length cp') ∧ Kp wr w' from ⟨cell_up qq e0, cell_up qq e1, cell_up qq e2, cell_up qq e3, cell_up qq e4, cell_up qq e5, cell_up qq e6, cell_up qq e7, cell_up qq d0, cell_up qq d1, cell_up qq d2, cell_up qq d3, cell_up qq d4, cell_up qq d5, cell_up qq d6, cell_up qq d7, cell_up qq ga, cell_up qq gb, qq⟩)
      clear kw0 ih hsub hsub' hsb IHc cc1
      go_wp2_with fail
      refine wp_region_held_drew (S := fun w' => w'.cell? ⟨bk, of + i * 8, none⟩ = some (.int .i64 k1) ∧ w'.cell? ⟨bk, of + i * 8 + 1, none⟩ = some (.int .i64 pk1) ∧ w'.cell? ⟨bk, of + i * 8 + 2, none⟩ = some (.string yk1) ∧ w'.cell? ⟨bk, of + i * 8 + 3, none⟩ = some (.string mk1) ∧ w'.cell? ⟨bk, of + i * 8 + 4, none⟩ = some (.string qk1) ∧ w'.cell? ⟨bk, of + i * 8 + 5, none⟩ = some (.bool ak1) ∧ w'.cell? ⟨bk, of + i * 8 + 6, none⟩ = some (.bool tk1) ∧ w'.cell? ⟨bk, of + i * 8 + 7, none⟩ = some (.slice adk1 lk1.length cpk1) ∧ w'.cell? ⟨bk', of' + i * 8, none⟩ = some (.int .i64 j1) ∧ w'.cell? ⟨bk', of' + i * 8 + 1, none⟩ = some (.int .i64 pj1) ∧ w'.cell? ⟨bk', of' + i * 8 + 2, none⟩ = some (.string yj1) ∧ w'.cell? ⟨bk', of' + i * 8 + 3, none⟩ = some (.string mj1) ∧ w'.cell? ⟨bk', of' + i * 8 + 4, none⟩ = some (.string qj1) ∧ w'.cell? ⟨bk', of' + i * 8 + 5, none⟩ = some (.bool aj1) ∧ w'.cell? ⟨bk', of' + i * 8 + 6, none⟩ = some (.bool tj1) ∧ w'.cell? ⟨bk', of' + i * 8 + 7, none⟩ = some (.slice adj1 lj1.length cpj1) ∧ w'.cell? ⟨w.heap.size, 7, none⟩ = some (.slice (some ⟨bk, of, none⟩) l.length cp) ∧ w'.cell? ⟨w.heap.size + 1, 7, none⟩ = some (.slice (some ⟨bk', of', none⟩) l'.length cp') ∧ Kp wr w') (by kernel_rfl) ?_ (fun hHeld0 => ?_)
      · (try dsimp only); exact KS.out _ (by first | exact Kp.refl _ | exact Kp.drew _ | assumption)
      refine tkW (v := ?_) 0 rfS0 rfl (by kernel_rfl) (by kernel_rfl) (by kernel_rfl) (fun _ _ _ h => h) (by rfl) ?_ (by assumption) ?_
      rotate_left
      · intro w hSw; (try dsimp only at hSw); go_simp; (try with_reducible rfl)
      (try simp only [Act.put, rfS0, List.setIfInBounds_toArray, List.set_cons_zero, List.set_cons_succ])
      refine tkW (v := ?_) 1 rfS1 rfl (by kernel_rfl) (by kernel_rfl) (by kernel_rfl) (fun _ _ _ h => h) (by rfl) ?_ (by assumption) ?_
      rotate_left
      · intro w hSw; (try dsimp only at hSw); go_simp; (try with_reducible rfl)
      (try simp only [Act.put, rfS1, List.setIfInBounds_toArray, List.set_cons_zero, List.set_cons_succ])
      refine tkW (v := ?_) 2 rfS2 rfl (by kernel_rfl) (by kernel_rfl) (by kernel_rfl) (fun _ _ _ h => h) (by rfl) ?_ (by assumption) ?_
      rotate_left
      · intro w hSw; (try dsimp only at hSw); go_simp; (try with_reducible rfl)
      (try simp only [Act.put, rfS2, List.setIfInBounds_toArray, List.set_cons_zero, List.set_cons_succ])
      refine tkW (v := ?_) 3 rfS3 rfl (by kernel_rfl) (by kernel_rfl) (by kernel_rfl) (fun _ _ _ h => h) (by rfl) ?_ (by assumption) ?_
      rotate_left
      · intro w hSw; (try dsimp only at hSw); go_simp; (try with_reducible rfl)
      (try simp only [Act.put, rfS3, List.setIfInBounds_toArray, List.set_cons_zero, List.set_cons_succ])
      refine tkW (v := ?_) 4 rfS4 rfl (by kernel_rfl) (by kernel_rfl) (by kernel_rfl) (fun _ _ _ h => h) (by rfl) ?_ (by assumption) ?_
      rotate_left
      · intro w hSw; (try dsimp only at hSw); go_simp; (try with_reducible rfl)
      (try simp only [Act.put, rfS4, List.setIfInBounds_toArray, List.set_cons_zero, List.set_cons_succ])
      refine tkW (v := ?_) 5 rfS5 rfl (by kernel_rfl) (by kernel_rfl) (by kernel_rfl) (fun _ _ _ h => h) (by rfl) ?_ (by assumption) ?_
      rotate_left
      · intro w hSw; (try dsimp only at hSw); go_simp; (try with_reducible rfl)
      (try simp only [Act.put, rfS5, List.setIfInBounds_toArray, List.set_cons_zero, List.set_cons_succ])
      refine tkW (v := ?_) 6 rfS6 rfl (by kernel_rfl) (by kernel_rfl) (by kernel_rfl) (fun _ _ _ h => h) (by rfl) ?_ (by assumption) ?_
      rotate_left
      · intro w hSw; (try dsimp only at hSw); go_simp; (try with_reducible rfl)
      (try simp only [Act.put, rfS6, List.setIfInBounds_toArray, List.set_cons_zero, List.set_cons_succ])
      refine tkW (v := ?_) 7 rfS7 rfl (by kernel_rfl) (by kernel_rfl) (by kernel_rfl) (fun _ _ _ h => h) (by rfl) ?_ (by assumption) ?_
      rotate_left
      · intro w hSw; (try dsimp only at hSw); go_simp; (try with_reducible rfl)
      (try simp only [Act.put, rfS7, List.setIfInBounds_toArray, List.set_cons_zero, List.set_cons_succ])
      refine tkW (v := ?_) 8 rfS8 rfl (by kernel_rfl) (by kernel_rfl) (by kernel_rfl) (fun _ _ _ h => h) (by rfl) ?_ (by assumption) ?_
      rotate_left
      · intro w hSw; (try dsimp only at hSw); go_simp; (try with_reducible rfl)
      (try simp only [Act.put, rfS8, List.setIfInBounds_toArray, List.set_cons_zero, List.set_cons_succ])
      refine tkW (v := ?_) 9 rfS9 rfl (by kernel_rfl) (by kernel_rfl) (by kernel_rfl) (fun _ _ _ h => h) (by rfl) ?_ (by assumption) ?_
      rotate_left
      · intro w hSw; (try dsimp only at hSw); go_simp; (try with_reducible rfl)
      (try simp only [Act.put, rfS9, List.setIfInBounds_toArray, List.set_cons_zero, List.set_cons_succ])
      refine tkE 10 rfS10 rfl (by kernel_rfl) (fun K hK => ?_)
      go_simp
      (refine (IH.out _ (KW0.out.trans (by first | exact Kp.refl _ | exact Kp.drew _)) HB1.out).mono ?_; rintro e w5 ⟨rfl, kq⟩; have k2 : Kp wr w5 := Kp.trans (by first | exact Kp.refl _ | exact Kp.drew _) kq; clear kq)
      (try go_wp2_with fail)
      refine hK.out _ _ ?_ (fun hHeld1 => ?_)
      · (try dsimp only); exact KS.out _ (by first | exact Kp.refl _ | exact Kp.drew _ | assumption)
      clear hK K hHeld0
      (try simp only [Act.put, rfS10, List.setIfInBounds_toArray, List.set_cons_zero, List.set_cons_succ])
      refine tkW (v := ?_) 11 rfS11 rfl (by kernel_rfl) (by kernel_rfl) (by kernel_rfl) (fun _ _ _ h => h) (by rfl) ?_ (by assumption) ?_
      rotate_left
      · intro w hSw; (try dsimp only at hSw); go_simp; (try with_reducible rfl)
      (try simp only [Act.put, rfS11, List.setIfInBounds_toArray, List.set_cons_zero, List.set_cons_succ])
      refine wpAnyH_done (by kernel_rfl) ?_ _
      have KL5 := Lib.hid (KL.out.trans k2)
      clear e0 e1 e2 e3 e4 e5 e6 e7 d0 d1 d2 d3 d4 d5 d6 d7 ga gb KS
      cases sb with
      | true =>
        go_wp2
        go_roundw
        case rel => exact ⟨i + 1, HLT.out, by go_num, KL5, Lib.hid (fun x hx => by
          by_cases hxi : x < i
          · exact LO.out x hxi
          · obtain rfl : x = i := by omega
            rw [NTH.out, NTZ.out]; exact HSB.out)⟩
        case measure => have := HLT.out; simp [intOf]; omega
      | false =>
        obtain rfl : res = false := by
          cases res with
          | false => rfl
          | true => exact absurd (SAB.out rfl) (by decide)
        have KE := KW.out.trans KL5.out
        go_wp2
        go_ret
        exact ⟨rfl, KE⟩
    · obtain rfl : i = l.length := by omega
      obtain rfl : res = true := SA.out.2 LO.out
      have KE := KW.out.trans KL.out
      have ga := (row8 (heap_block KL.out GA.out)).2.2.2.2.2.2.2
      go_wp2
      go_ret
      exact ⟨rfl, KE⟩
end Go.Proofs.YtgmigeehfhkimaaDoor

namespace Go.Proofs.YtgmigeehfhkimaaDoor
open Go.RowKit Go.Shelf
set_option linter.unusedVariables false
set_option linter.unusedSimpArgs false
theorem row4p {w : World} {b : Nat} {c0 c1 c2 c3 : Value} {t : TypeId} {fr : Nat × Nat} (hg : w.heap[b]? = some (.cells #[c0, c1, c2, c3] t fr)) :
    w.cell? ⟨b, 0, none⟩ = some c0 ∧ w.cell? ⟨b, 1, none⟩ = some c1 ∧ w.cell? ⟨b, 2, none⟩ = some c2 ∧ w.cell? ⟨b, 3, none⟩ = some c3 := by
  refine ⟨?_, ?_, ?_, ?_⟩ <;> simp [World.cell?, hg]
theorem bempty0 (s : ByteArray) : (⟨#[]⟩ : ByteArray) ++ s = s := by apply ByteArray.ext; simp [ByteArray.data_append]
theorem wr_kinds2 {k : Int} {p : PT} {a t : Bool} {l : List ND} (h : wrB (.mk k p a t l) = true) : (k = 0 ∧ l = [] ∧ saneP p = true) ∨ (k = 1 ∧ ∃ x y, l = [x, y] ∧ wrB x = true ∧ wrB y = true) ∨ (k = 2 ∧ 0 < l.length ∧ ∀ x ∈ l, wrB x = true) ∨ k = 3 ∨ k = 4 := by
  rcases wr_kinds h with g | g | g | g | g
  · exact .inl g
  · exact .inr (.inl g)
  · refine .inr (.inr (.inl ⟨g.1, ?_, g.2⟩))
    unfold wrB at h
    rw [Bool.or_eq_true] at h
    rcases h with h | h
    · rcases endN_kind h with ⟨p', a', t', e, hp⟩ | e | e
      · simp only [ND.mk.injEq] at e; omega
      · simp only [ND.mk.injEq] at e; omega
      · simp only [ND.mk.injEq] at e; omega
    · rcases rightN_kind h with ⟨p', a', t', e, hp⟩ | ⟨x, y, e, hx, hy⟩ | ⟨x, l', e, hl⟩
      · simp only [ND.mk.injEq] at e; omega
      · simp only [ND.mk.injEq] at e; omega
      · simp only [ND.mk.injEq] at e; rw [e.2.2.2.2]; simp
  · exact .inr (.inr (.inr (.inl g)))
  · exact .inr (.inr (.inr (.inr g)))
theorem bempty (s : ByteArray) : s ++ (⟨#[]⟩ : ByteArray) = s := by apply ByteArray.ext; simp [ByteArray.data_append]
set_option maxHeartbeats 16000000 in
set_option maxRecDepth 100000 in
theorem rtext8_0 (y m d : ByteArray) (w : World) (hy : y.size ≤ 10) (hm : m.size ≤ 10) (hd : d.size ≤ 10) : Calls Tryd.prog 62 #[.agg #[.int .i64 0, .string y, .string m, .string d]] w fun e w' => e = .returned (.string (textP ⟨0, y, m, d⟩)) ∧ Kp w w' := by
  obtain ⟨W0, hW⟩ : ∃ x, x = w.alloc (.cells #[.int .i64 0, .string y, .string m, .string d] 23) := ⟨_, rfl⟩
  have kw : Kp w W0 := by rw [hW]; exact Kp.alloc _ _
  have gB : W0.heap[w.heap.size]? = some (.cells #[.int .i64 0, .string y, .string m, .string d] 23 (0, 0)) := by rw [hW]; exact heap_at _ _ _ rfl
  have GB := Lib.hid (fun w1 (q : Kp W0 w1) => heap_block q gB)
  have KW := Lib.hid kw
  have HW := Lib.hid hW
  have CS := Lib.hid (fun w1 (q : Kp W0 w1) => show Calls Tryd.prog 61 #[.agg #[.int .i64 0, .string y, .string m, .string d]] w1 fun e w' => e = .returned (.bool (saneP ⟨0, y, m, d⟩)) ∧ Kp w1 w' from rsane8_any ⟨0, y, m, d⟩ w1 hy hm hd)
  clear kw gB hW
  unfold textP
  obtain ⟨sb, hsb⟩ : ∃ b, saneP ⟨0, y, m, d⟩ = b := ⟨_, rfl⟩
  rw [hsb] at CS ⊢
  clear hsb
  cases sb with
  | false =>
    rw [if_neg (by decide)]
    go_enter Tryd.func62, Tryd.ntmps62
    go_wp2_with fail
    rw [← HW.out]
    obtain ⟨x0, x1, x2, x3⟩ := row4p (GB.out _ (Kp.refl _))
    go_wp2_with fail
    refine (CS.out _ (Kp.refl _)).mono ?_
    rintro e w1 ⟨rfl, kk⟩
    have K1 := Lib.hid kk
    clear kk x0 x1 x2 x3
    go_wp2
    go_ret
    exact ⟨rfl, KW.out.trans K1.out⟩
  | true =>
    rw [if_pos rfl]
    have HR := Lib.hid (show ((((y ++ dash) ++ m) ++ dash) ++ d) = y ++ (dash ++ m ++ (dash ++ d)) by simp only [ByteArray.append_assoc])
    obtain ⟨r, hr⟩ : ∃ r, y ++ (dash ++ m ++ (dash ++ d)) = r := ⟨_, rfl⟩
    have HR2 := Lib.hid (HR.out.trans hr)
    show Calls _ _ _ _ fun e w' => e = .returned (.string (y ++ (dash ++ m ++ (dash ++ d)))) ∧ Kp w w'
    rw [hr]
    clear hr HR
    unfold dash at HR2
    go_enter Tryd.func62, Tryd.ntmps62
    go_wp2_with fail
    rw [← HW.out]
    obtain ⟨x0, x1, x2, x3⟩ := row4p (GB.out _ (Kp.refl _))
    go_wp2_with fail
    refine (CS.out _ (Kp.refl _)).mono ?_
    rintro e w1 ⟨rfl, kk⟩
    have K1 := Lib.hid kk
    clear kk x0 x1 x2 x3
    obtain ⟨x0, x1, x2, x3⟩ := row4p (GB.out _ K1.out)
    go_wp2
    go_ret
    exact ⟨by rw [← HR2.out]; rfl, KW.out.trans K1.out⟩
set_option maxHeartbeats 16000000 in
set_option maxRecDepth 100000 in
theorem rtext8_1 (y m d : ByteArray) (w : World) (hy : y.size ≤ 10) (hm : m.size ≤ 10) (hd : d.size ≤ 10) : Calls Tryd.prog 62 #[.agg #[.int .i64 1, .string y, .string m, .string d]] w fun e w' => e = .returned (.string (textP ⟨1, y, m, d⟩)) ∧ Kp w w' := by
  obtain ⟨W0, hW⟩ : ∃ x, x = w.alloc (.cells #[.int .i64 1, .string y, .string m, .string d] 23) := ⟨_, rfl⟩
  have kw : Kp w W0 := by rw [hW]; exact Kp.alloc _ _
  have gB : W0.heap[w.heap.size]? = some (.cells #[.int .i64 1, .string y, .string m, .string d] 23 (0, 0)) := by rw [hW]; exact heap_at _ _ _ rfl
  have GB := Lib.hid (fun w1 (q : Kp W0 w1) => heap_block q gB)
  have KW := Lib.hid kw
  have HW := Lib.hid hW
  have CS := Lib.hid (fun w1 (q : Kp W0 w1) => show Calls Tryd.prog 61 #[.agg #[.int .i64 1, .string y, .string m, .string d]] w1 fun e w' => e = .returned (.bool (saneP ⟨1, y, m, d⟩)) ∧ Kp w1 w' from rsane8_any ⟨1, y, m, d⟩ w1 hy hm hd)
  clear kw gB hW
  unfold textP
  obtain ⟨sb, hsb⟩ : ∃ b, saneP ⟨1, y, m, d⟩ = b := ⟨_, rfl⟩
  rw [hsb] at CS ⊢
  clear hsb
  cases sb with
  | false =>
    rw [if_neg (by decide)]
    go_enter Tryd.func62, Tryd.ntmps62
    go_wp2_with fail
    rw [← HW.out]
    obtain ⟨x0, x1, x2, x3⟩ := row4p (GB.out _ (Kp.refl _))
    go_wp2_with fail
    refine (CS.out _ (Kp.refl _)).mono ?_
    rintro e w1 ⟨rfl, kk⟩
    have K1 := Lib.hid kk
    clear kk x0 x1 x2 x3
    go_wp2
    go_ret
    exact ⟨rfl, KW.out.trans K1.out⟩
  | true =>
    rw [if_pos rfl]
    have HR := Lib.hid (show ((y ++ dash) ++ m) = y ++ (dash ++ m ++ ⟨#[]⟩) by rw [bempty, ByteArray.append_assoc])
    obtain ⟨r, hr⟩ : ∃ r, y ++ (dash ++ m ++ ⟨#[]⟩) = r := ⟨_, rfl⟩
    have HR2 := Lib.hid (HR.out.trans hr)
    show Calls _ _ _ _ fun e w' => e = .returned (.string (y ++ (dash ++ m ++ ⟨#[]⟩))) ∧ Kp w w'
    rw [hr]
    clear hr HR
    unfold dash at HR2
    go_enter Tryd.func62, Tryd.ntmps62
    go_wp2_with fail
    rw [← HW.out]
    obtain ⟨x0, x1, x2, x3⟩ := row4p (GB.out _ (Kp.refl _))
    go_wp2_with fail
    refine (CS.out _ (Kp.refl _)).mono ?_
    rintro e w1 ⟨rfl, kk⟩
    have K1 := Lib.hid kk
    clear kk x0 x1 x2 x3
    obtain ⟨x0, x1, x2, x3⟩ := row4p (GB.out _ K1.out)
    go_wp2
    go_ret
    exact ⟨by rw [← HR2.out]; rfl, KW.out.trans K1.out⟩
set_option maxHeartbeats 16000000 in
set_option maxRecDepth 100000 in
theorem rtext8_2 (y m d : ByteArray) (w : World) (hy : y.size ≤ 10) (hm : m.size ≤ 10) (hd : d.size ≤ 10) : Calls Tryd.prog 62 #[.agg #[.int .i64 2, .string y, .string m, .string d]] w fun e w' => e = .returned (.string (textP ⟨2, y, m, d⟩)) ∧ Kp w w' := by
  obtain ⟨W0, hW⟩ : ∃ x, x = w.alloc (.cells #[.int .i64 2, .string y, .string m, .string d] 23) := ⟨_, rfl⟩
  have kw : Kp w W0 := by rw [hW]; exact Kp.alloc _ _
  have gB : W0.heap[w.heap.size]? = some (.cells #[.int .i64 2, .string y, .string m, .string d] 23 (0, 0)) := by rw [hW]; exact heap_at _ _ _ rfl
  have GB := Lib.hid (fun w1 (q : Kp W0 w1) => heap_block q gB)
  have KW := Lib.hid kw
  have HW := Lib.hid hW
  have CS := Lib.hid (fun w1 (q : Kp W0 w1) => show Calls Tryd.prog 61 #[.agg #[.int .i64 2, .string y, .string m, .string d]] w1 fun e w' => e = .returned (.bool (saneP ⟨2, y, m, d⟩)) ∧ Kp w1 w' from rsane8_any ⟨2, y, m, d⟩ w1 hy hm hd)
  clear kw gB hW
  unfold textP
  obtain ⟨sb, hsb⟩ : ∃ b, saneP ⟨2, y, m, d⟩ = b := ⟨_, rfl⟩
  rw [hsb] at CS ⊢
  clear hsb
  cases sb with
  | false =>
    rw [if_neg (by decide)]
    go_enter Tryd.func62, Tryd.ntmps62
    go_wp2_with fail
    rw [← HW.out]
    obtain ⟨x0, x1, x2, x3⟩ := row4p (GB.out _ (Kp.refl _))
    go_wp2_with fail
    refine (CS.out _ (Kp.refl _)).mono ?_
    rintro e w1 ⟨rfl, kk⟩
    have K1 := Lib.hid kk
    clear kk x0 x1 x2 x3
    go_wp2
    go_ret
    exact ⟨rfl, KW.out.trans K1.out⟩
  | true =>
    rw [if_pos rfl]
    have HR := Lib.hid (show ((y ++ (⟨#[115]⟩ : ByteArray)) ++ m) = y ++ ((⟨#[115]⟩ : ByteArray) ++ m) by rw [ByteArray.append_assoc])
    obtain ⟨r, hr⟩ : ∃ r, y ++ ((⟨#[115]⟩ : ByteArray) ++ m) = r := ⟨_, rfl⟩
    have HR2 := Lib.hid (HR.out.trans hr)
    show Calls _ _ _ _ fun e w' => e = .returned (.string (y ++ ((⟨#[115]⟩ : ByteArray) ++ m))) ∧ Kp w w'
    rw [hr]
    clear hr HR
    unfold dash at HR2
    go_enter Tryd.func62, Tryd.ntmps62
    go_wp2_with fail
    rw [← HW.out]
    obtain ⟨x0, x1, x2, x3⟩ := row4p (GB.out _ (Kp.refl _))
    go_wp2_with fail
    refine (CS.out _ (Kp.refl _)).mono ?_
    rintro e w1 ⟨rfl, kk⟩
    have K1 := Lib.hid kk
    clear kk x0 x1 x2 x3
    obtain ⟨x0, x1, x2, x3⟩ := row4p (GB.out _ K1.out)
    go_wp2
    go_ret
    exact ⟨by rw [← HR2.out]; rfl, KW.out.trans K1.out⟩
set_option maxHeartbeats 16000000 in
set_option maxRecDepth 100000 in
theorem rtext8_3 (y m d : ByteArray) (w : World) (hy : y.size ≤ 10) (hm : m.size ≤ 10) (hd : d.size ≤ 10) : Calls Tryd.prog 62 #[.agg #[.int .i64 3, .string y, .string m, .string d]] w fun e w' => e = .returned (.string (textP ⟨3, y, m, d⟩)) ∧ Kp w w' := by
  obtain ⟨W0, hW⟩ : ∃ x, x = w.alloc (.cells #[.int .i64 3, .string y, .string m, .string d] 23) := ⟨_, rfl⟩
  have kw : Kp w W0 := by rw [hW]; exact Kp.alloc _ _
  have gB : W0.heap[w.heap.size]? = some (.cells #[.int .i64 3, .string y, .string m, .string d] 23 (0, 0)) := by rw [hW]; exact heap_at _ _ _ rfl
  have GB := Lib.hid (fun w1 (q : Kp W0 w1) => heap_block q gB)
  have KW := Lib.hid kw
  have HW := Lib.hid hW
  have CS := Lib.hid (fun w1 (q : Kp W0 w1) => show Calls Tryd.prog 61 #[.agg #[.int .i64 3, .string y, .string m, .string d]] w1 fun e w' => e = .returned (.bool (saneP ⟨3, y, m, d⟩)) ∧ Kp w1 w' from rsane8_any ⟨3, y, m, d⟩ w1 hy hm hd)
  clear kw gB hW
  unfold textP
  obtain ⟨sb, hsb⟩ : ∃ b, saneP ⟨3, y, m, d⟩ = b := ⟨_, rfl⟩
  rw [hsb] at CS ⊢
  clear hsb
  cases sb with
  | false =>
    rw [if_neg (by decide)]
    go_enter Tryd.func62, Tryd.ntmps62
    go_wp2_with fail
    rw [← HW.out]
    obtain ⟨x0, x1, x2, x3⟩ := row4p (GB.out _ (Kp.refl _))
    go_wp2_with fail
    refine (CS.out _ (Kp.refl _)).mono ?_
    rintro e w1 ⟨rfl, kk⟩
    have K1 := Lib.hid kk
    clear kk x0 x1 x2 x3
    go_wp2
    go_ret
    exact ⟨rfl, KW.out.trans K1.out⟩
  | true =>
    rw [if_pos rfl]
    have HR := Lib.hid (show y = y ++ (⟨#[]⟩ : ByteArray) by rw [bempty])
    obtain ⟨r, hr⟩ : ∃ r, y ++ (⟨#[]⟩ : ByteArray) = r := ⟨_, rfl⟩
    have HR2 := Lib.hid (HR.out.trans hr)
    show Calls _ _ _ _ fun e w' => e = .returned (.string (y ++ (⟨#[]⟩ : ByteArray))) ∧ Kp w w'
    rw [hr]
    clear hr HR
    unfold dash at HR2
    go_enter Tryd.func62, Tryd.ntmps62
    go_wp2_with fail
    rw [← HW.out]
    obtain ⟨x0, x1, x2, x3⟩ := row4p (GB.out _ (Kp.refl _))
    go_wp2_with fail
    refine (CS.out _ (Kp.refl _)).mono ?_
    rintro e w1 ⟨rfl, kk⟩
    have K1 := Lib.hid kk
    clear kk x0 x1 x2 x3
    obtain ⟨x0, x1, x2, x3⟩ := row4p (GB.out _ K1.out)
    go_wp2
    go_ret
    exact ⟨by rw [← HR2.out]; rfl, KW.out.trans K1.out⟩
set_option maxHeartbeats 16000000 in
set_option maxRecDepth 100000 in
theorem rtext8_4 (y m d : ByteArray) (w : World) (hy : y.size ≤ 10) (hm : m.size ≤ 10) (hd : d.size ≤ 10) : Calls Tryd.prog 62 #[.agg #[.int .i64 4, .string y, .string m, .string d]] w fun e w' => e = .returned (.string (textP ⟨4, y, m, d⟩)) ∧ Kp w w' := by
  obtain ⟨W0, hW⟩ : ∃ x, x = w.alloc (.cells #[.int .i64 4, .string y, .string m, .string d] 23) := ⟨_, rfl⟩
  have kw : Kp w W0 := by rw [hW]; exact Kp.alloc _ _
  have gB : W0.heap[w.heap.size]? = some (.cells #[.int .i64 4, .string y, .string m, .string d] 23 (0, 0)) := by rw [hW]; exact heap_at _ _ _ rfl
  have GB := Lib.hid (fun w1 (q : Kp W0 w1) => heap_block q gB)
  have KW := Lib.hid kw
  have HW := Lib.hid hW
  have CS := Lib.hid (fun w1 (q : Kp W0 w1) => show Calls Tryd.prog 61 #[.agg #[.int .i64 4, .string y, .string m, .string d]] w1 fun e w' => e = .returned (.bool (saneP ⟨4, y, m, d⟩)) ∧ Kp w1 w' from rsane8_any ⟨4, y, m, d⟩ w1 hy hm hd)
  clear kw gB hW
  unfold textP
  obtain ⟨sb, hsb⟩ : ∃ b, saneP ⟨4, y, m, d⟩ = b := ⟨_, rfl⟩
  rw [hsb] at CS ⊢
  clear hsb
  cases sb with
  | false =>
    rw [if_neg (by decide)]
    go_enter Tryd.func62, Tryd.ntmps62
    go_wp2_with fail
    rw [← HW.out]
    obtain ⟨x0, x1, x2, x3⟩ := row4p (GB.out _ (Kp.refl _))
    go_wp2_with fail
    refine (CS.out _ (Kp.refl _)).mono ?_
    rintro e w1 ⟨rfl, kk⟩
    have K1 := Lib.hid kk
    clear kk x0 x1 x2 x3
    go_wp2
    go_ret
    exact ⟨rfl, KW.out.trans K1.out⟩
  | true =>
    rw [if_pos rfl]
    have HR := Lib.hid (show (y ++ (⟨#[100]⟩ : ByteArray)) = y ++ (⟨#[100]⟩ : ByteArray) by rfl)
    obtain ⟨r, hr⟩ : ∃ r, y ++ (⟨#[100]⟩ : ByteArray) = r := ⟨_, rfl⟩
    have HR2 := Lib.hid (HR.out.trans hr)
    show Calls _ _ _ _ fun e w' => e = .returned (.string (y ++ (⟨#[100]⟩ : ByteArray))) ∧ Kp w w'
    rw [hr]
    clear hr HR
    unfold dash at HR2
    go_enter Tryd.func62, Tryd.ntmps62
    go_wp2_with fail
    rw [← HW.out]
    obtain ⟨x0, x1, x2, x3⟩ := row4p (GB.out _ (Kp.refl _))
    go_wp2_with fail
    refine (CS.out _ (Kp.refl _)).mono ?_
    rintro e w1 ⟨rfl, kk⟩
    have K1 := Lib.hid kk
    clear kk x0 x1 x2 x3
    obtain ⟨x0, x1, x2, x3⟩ := row4p (GB.out _ K1.out)
    go_wp2
    go_ret
    exact ⟨by rw [← HR2.out]; rfl, KW.out.trans K1.out⟩
set_option maxHeartbeats 16000000 in
set_option maxRecDepth 100000 in
theorem rtext8_5 (y m d : ByteArray) (w : World) (hy : y.size ≤ 10) (hm : m.size ≤ 10) (hd : d.size ≤ 10) : Calls Tryd.prog 62 #[.agg #[.int .i64 5, .string y, .string m, .string d]] w fun e w' => e = .returned (.string (textP ⟨5, y, m, d⟩)) ∧ Kp w w' := by
  obtain ⟨W0, hW⟩ : ∃ x, x = w.alloc (.cells #[.int .i64 5, .string y, .string m, .string d] 23) := ⟨_, rfl⟩
  have kw : Kp w W0 := by rw [hW]; exact Kp.alloc _ _
  have gB : W0.heap[w.heap.size]? = some (.cells #[.int .i64 5, .string y, .string m, .string d] 23 (0, 0)) := by rw [hW]; exact heap_at _ _ _ rfl
  have GB := Lib.hid (fun w1 (q : Kp W0 w1) => heap_block q gB)
  have KW := Lib.hid kw
  have HW := Lib.hid hW
  have CS := Lib.hid (fun w1 (q : Kp W0 w1) => show Calls Tryd.prog 61 #[.agg #[.int .i64 5, .string y, .string m, .string d]] w1 fun e w' => e = .returned (.bool (saneP ⟨5, y, m, d⟩)) ∧ Kp w1 w' from rsane8_any ⟨5, y, m, d⟩ w1 hy hm hd)
  clear kw gB hW
  unfold textP
  obtain ⟨sb, hsb⟩ : ∃ b, saneP ⟨5, y, m, d⟩ = b := ⟨_, rfl⟩
  rw [hsb] at CS ⊢
  clear hsb
  cases sb with
  | false =>
    rw [if_neg (by decide)]
    go_enter Tryd.func62, Tryd.ntmps62
    go_wp2_with fail
    rw [← HW.out]
    obtain ⟨x0, x1, x2, x3⟩ := row4p (GB.out _ (Kp.refl _))
    go_wp2_with fail
    refine (CS.out _ (Kp.refl _)).mono ?_
    rintro e w1 ⟨rfl, kk⟩
    have K1 := Lib.hid kk
    clear kk x0 x1 x2 x3
    go_wp2
    go_ret
    exact ⟨rfl, KW.out.trans K1.out⟩
  | true =>
    rw [if_pos rfl]
    have HR := Lib.hid (show (y ++ (⟨#[99]⟩ : ByteArray)) = y ++ (⟨#[99]⟩ : ByteArray) by rfl)
    obtain ⟨r, hr⟩ : ∃ r, y ++ (⟨#[99]⟩ : ByteArray) = r := ⟨_, rfl⟩
    have HR2 := Lib.hid (HR.out.trans hr)
    show Calls _ _ _ _ fun e w' => e = .returned (.string (y ++ (⟨#[99]⟩ : ByteArray))) ∧ Kp w w'
    rw [hr]
    clear hr HR
    unfold dash at HR2
    go_enter Tryd.func62, Tryd.ntmps62
    go_wp2_with fail
    rw [← HW.out]
    obtain ⟨x0, x1, x2, x3⟩ := row4p (GB.out _ (Kp.refl _))
    go_wp2_with fail
    refine (CS.out _ (Kp.refl _)).mono ?_
    rintro e w1 ⟨rfl, kk⟩
    have K1 := Lib.hid kk
    clear kk x0 x1 x2 x3
    obtain ⟨x0, x1, x2, x3⟩ := row4p (GB.out _ K1.out)
    go_wp2
    go_ret
    exact ⟨by rw [← HR2.out]; rfl, KW.out.trans K1.out⟩
theorem rtext8_any (p : PT) (w : World) (h : saneP p = true) (hy : p.y.size ≤ 10) (hm : p.m.size ≤ 10) (hd : p.d.size ≤ 10) : Calls Tryd.prog 62 #[ptV p] w fun e w' => e = .returned (.string (bs (tlP p))) ∧ Kp w w' := by
  rw [show bs (tlP p) = textP p from bs_list _]
  have hk := (sane_kind h).1
  obtain ⟨k, y, m, d, rfl⟩ := pt_dest p
  unfold ptV
  simp only at *
  rcases kinds6 hk with rfl | rfl | rfl | rfl | rfl | rfl
  · exact rtext8_0 y m d w hy hm hd
  · exact rtext8_1 y m d w hy hm hd
  · exact rtext8_2 y m d w hy hm hd
  · exact rtext8_3 y m d w hy hm hd
  · exact rtext8_4 y m d w hy hm hd
  · exact rtext8_5 y m d w hy hm hd
set_option maxHeartbeats 16000000 in
set_option maxRecDepth 100000 in
theorem rtx3_any (w0 : World) (v : Value) (l : List ND) (hh : ∃ ad cp, v = .slice ad l.length cp ∧ (0 < l.length → ∃ bk off, ad = some ⟨bk, off, none⟩ ∧ ∀ i, i < l.length → ∃ vi, RowN w0 bk (off + i * 8) (nth l i) vi ∧ NodesAt w0 vi (nth l i).l ∧ (fun v l => ∀ (k : Int) (p : PT) (a t : Bool) (w : World), Kp w0 w → wrB (.mk k p a t l) = true → shortN (.mk k p a t l) = true → cntL l ≤ 2000000 → (txN (.mk k p a t l)).length ≤ 1000000 →
      Calls Tryd.prog 55 #[ndV (.mk k p a t l) v] w fun e w' => e = .returned (.string (bs (txN (.mk k p a t l)))) ∧ Kp w w') vi (nth l i).l)) :
    ∀ (p : PT) (a t : Bool) (w : World), Kp w0 w → wrB (.mk 3 p a t l) = true → shortN (.mk 3 p a t l) = true → cntL l ≤ 2000000 → (txN (.mk 3 p a t l)).length ≤ 1000000 →
      Calls Tryd.prog 55 #[ndV (.mk 3 p a t l) v] w fun e w' => e = .returned (.string (bs (txN (.mk 3 p a t l)))) ∧ Kp w w' := by
  obtain ⟨ad, cp, rfl, hrow⟩ := hh
  intro p a t w k0 hw hsh hcn hlen
  obtain ⟨pk, y, m, q⟩ := p
  have HR := Lib.hid hrow
  have HWR := Lib.hid hw
  have HSH := Lib.hid hsh
  obtain ⟨W0, hW0⟩ : ∃ x, x = w.alloc (.cells #[.int .i64 3, .int .i64 pk, .string y, .string m, .string q, .bool a, .bool t, .slice ad l.length cp] 26) := ⟨_, rfl⟩
  have kw : Kp w W0 := by rw [hW0]; exact Kp.alloc _ _
  have gB : W0.heap[w.heap.size]? = some (.cells #[.int .i64 3, .int .i64 pk, .string y, .string m, .string q, .bool a, .bool t, .slice ad l.length cp] 26 (0, 0)) := by rw [hW0]; exact heap_at _ _ _ rfl
  have GB := Lib.hid (fun w1 (q : Kp W0 w1) => heap_block q gB)
  have K0 := Lib.hid (k0.trans kw)
  have KW9 := Lib.hid k0
  have KW := Lib.hid kw
  have HW0 := Lib.hid hW0
  unfold ndV
  simp only [ND.k, ND.p, ND.a, ND.t, ND.l]
  clear hrow k0 kw gB hw hW0 hsh
  rw [show txN (.mk 3 ⟨pk, y, m, q⟩ a t l) = [46, 46] by simp [txN]]
  clear hlen hcn
  go_enter Tryd.func55, Tryd.ntmps55
  go_wp2
  go_ret
  exact ⟨rfl, Kp.alloc _ _⟩
set_option maxHeartbeats 16000000 in
set_option maxRecDepth 100000 in
theorem rtx4_any (w0 : World) (v : Value) (l : List ND) (hh : ∃ ad cp, v = .slice ad l.length cp ∧ (0 < l.length → ∃ bk off, ad = some ⟨bk, off, none⟩ ∧ ∀ i, i < l.length → ∃ vi, RowN w0 bk (off + i * 8) (nth l i) vi ∧ NodesAt w0 vi (nth l i).l ∧ (fun v l => ∀ (k : Int) (p : PT) (a t : Bool) (w : World), Kp w0 w → wrB (.mk k p a t l) = true → shortN (.mk k p a t l) = true → cntL l ≤ 2000000 → (txN (.mk k p a t l)).length ≤ 1000000 →
      Calls Tryd.prog 55 #[ndV (.mk k p a t l) v] w fun e w' => e = .returned (.string (bs (txN (.mk k p a t l)))) ∧ Kp w w') vi (nth l i).l)) :
    ∀ (p : PT) (a t : Bool) (w : World), Kp w0 w → wrB (.mk 4 p a t l) = true → shortN (.mk 4 p a t l) = true → cntL l ≤ 2000000 → (txN (.mk 4 p a t l)).length ≤ 1000000 →
      Calls Tryd.prog 55 #[ndV (.mk 4 p a t l) v] w fun e w' => e = .returned (.string (bs (txN (.mk 4 p a t l)))) ∧ Kp w w' := by
  obtain ⟨ad, cp, rfl, hrow⟩ := hh
  intro p a t w k0 hw hsh hcn hlen
  obtain ⟨pk, y, m, q⟩ := p
  have HR := Lib.hid hrow
  have HWR := Lib.hid hw
  have HSH := Lib.hid hsh
  obtain ⟨W0, hW0⟩ : ∃ x, x = w.alloc (.cells #[.int .i64 4, .int .i64 pk, .string y, .string m, .string q, .bool a, .bool t, .slice ad l.length cp] 26) := ⟨_, rfl⟩
  have kw : Kp w W0 := by rw [hW0]; exact Kp.alloc _ _
  have gB : W0.heap[w.heap.size]? = some (.cells #[.int .i64 4, .int .i64 pk, .string y, .string m, .string q, .bool a, .bool t, .slice ad l.length cp] 26 (0, 0)) := by rw [hW0]; exact heap_at _ _ _ rfl
  have GB := Lib.hid (fun w1 (q : Kp W0 w1) => heap_block q gB)
  have K0 := Lib.hid (k0.trans kw)
  have KW9 := Lib.hid k0
  have KW := Lib.hid kw
  have HW0 := Lib.hid hW0
  unfold ndV
  simp only [ND.k, ND.p, ND.a, ND.t, ND.l]
  clear hrow k0 kw gB hw hW0 hsh
  rw [show txN (.mk 4 ⟨pk, y, m, q⟩ a t l) = [42] by simp [txN]]
  clear hlen hcn
  go_enter Tryd.func55, Tryd.ntmps55
  go_wp2
  go_ret
  exact ⟨rfl, Kp.alloc _ _⟩
set_option maxHeartbeats 16000000 in
set_option maxRecDepth 100000 in
theorem rtx0_any (w0 : World) (v : Value) (l : List ND) (hh : ∃ ad cp, v = .slice ad l.length cp ∧ (0 < l.length → ∃ bk off, ad = some ⟨bk, off, none⟩ ∧ ∀ i, i < l.length → ∃ vi, RowN w0 bk (off + i * 8) (nth l i) vi ∧ NodesAt w0 vi (nth l i).l ∧ (fun v l => ∀ (k : Int) (p : PT) (a t : Bool) (w : World), Kp w0 w → wrB (.mk k p a t l) = true → shortN (.mk k p a t l) = true → cntL l ≤ 2000000 → (txN (.mk k p a t l)).length ≤ 1000000 →
      Calls Tryd.prog 55 #[ndV (.mk k p a t l) v] w fun e w' => e = .returned (.string (bs (txN (.mk k p a t l)))) ∧ Kp w w') vi (nth l i).l)) :
    ∀ (p : PT) (a t : Bool) (w : World), Kp w0 w → wrB (.mk 0 p a t l) = true → shortN (.mk 0 p a t l) = true → cntL l ≤ 2000000 → (txN (.mk 0 p a t l)).length ≤ 1000000 →
      Calls Tryd.prog 55 #[ndV (.mk 0 p a t l) v] w fun e w' => e = .returned (.string (bs (txN (.mk 0 p a t l)))) ∧ Kp w w' := by
  obtain ⟨ad, cp, rfl, hrow⟩ := hh
  intro p a t w k0 hw hsh hcn hlen
  obtain ⟨pk, y, m, q⟩ := p
  have HR := Lib.hid hrow
  have HWR := Lib.hid hw
  have HSH := Lib.hid hsh
  obtain ⟨W0, hW0⟩ : ∃ x, x = w.alloc (.cells #[.int .i64 0, .int .i64 pk, .string y, .string m, .string q, .bool a, .bool t, .slice ad l.length cp] 26) := ⟨_, rfl⟩
  have kw : Kp w W0 := by rw [hW0]; exact Kp.alloc _ _
  have gB : W0.heap[w.heap.size]? = some (.cells #[.int .i64 0, .int .i64 pk, .string y, .string m, .string q, .bool a, .bool t, .slice ad l.length cp] 26 (0, 0)) := by rw [hW0]; exact heap_at _ _ _ rfl
  have GB := Lib.hid (fun w1 (q : Kp W0 w1) => heap_block q gB)
  have K0 := Lib.hid (k0.trans kw)
  have KW9 := Lib.hid k0
  have KW := Lib.hid kw
  have HW0 := Lib.hid hW0
  unfold ndV
  simp only [ND.k, ND.p, ND.a, ND.t, ND.l]
  clear hrow k0 kw gB hw hW0 hsh
  have hsp : saneP ⟨pk, y, m, q⟩ = true := by
    rcases wr_kinds2 HWR.out with h | ⟨h, _⟩ | ⟨h, _⟩ | h | h
    · exact h.2.2
    · exact absurd h (by decide)
    · exact absurd h (by decide)
    · exact absurd h (by decide)
    · exact absurd h (by decide)
  obtain ⟨z0, z1, z2⟩ := short_sz HSH.out
  have C := Lib.hid (fun w1 => show Calls Tryd.prog 62 #[.agg #[.int .i64 pk, .string y, .string m, .string q]] w1 fun e w' => e = .returned (.string (bs (tlP ⟨pk, y, m, q⟩))) ∧ Kp w1 w' from rtext8_any ⟨pk, y, m, q⟩ w1 hsp z0 z1 z2)
  rw [show txN (.mk 0 ⟨pk, y, m, q⟩ a t l) = tlP ⟨pk, y, m, q⟩ ++ (mrk a 63 ++ mrk t 126) by simp [txN]]
  have lp : (bs (tlP ⟨pk, y, m, q⟩)).size ≤ 10 := by rw [bs_size]; exact tlP_len hsp
  rw [bs_append, bs_append]
  obtain ⟨tp, htp⟩ : ∃ u, bs (tlP ⟨pk, y, m, q⟩) = u := ⟨_, rfl⟩
  rw [htp] at C lp ⊢
  clear htp hsp z0 z1 z2 hlen hcn
  have R00 : tp ++ (bs (mrk false 63) ++ bs (mrk false 126)) = tp := by show tp ++ (⟨#[]⟩ ++ ⟨#[]⟩ : ByteArray) = tp; rw [bempty, bempty]
  have R10 : tp ++ (bs (mrk true 63) ++ bs (mrk false 126)) = tp ++ (⟨#[63]⟩ : ByteArray) := by show tp ++ ((⟨#[63]⟩ : ByteArray) ++ ⟨#[]⟩) = _; rw [bempty]
  have R01 : tp ++ (bs (mrk false 63) ++ bs (mrk true 126)) = tp ++ (⟨#[126]⟩ : ByteArray) := rfl
  have R11 : tp ++ (bs (mrk true 63) ++ bs (mrk true 126)) = tp ++ (⟨#[63]⟩ : ByteArray) ++ (⟨#[126]⟩ : ByteArray) := by rw [ByteArray.append_assoc]; rfl
  have RR := Lib.hid (And.intro R00 (And.intro R10 (And.intro R01 R11)))
  clear R00 R10 R01 R11
  cases a <;> cases t
  · have RE := Lib.hid RR.out.1
    obtain ⟨r, hr⟩ : ∃ r, tp ++ (bs (mrk false 63) ++ bs (mrk false 126)) = r := ⟨_, rfl⟩
    rw [hr]
    have HR2 := Lib.hid (hr.symm.trans RE.out)
    clear hr RE RR
    go_enter Tryd.func55, Tryd.ntmps55
    go_wp2_with fail
    rw [← HW0.out]
    refine (C.out _).mono ?_
    rintro e w1 ⟨rfl, kk⟩
    have K1 := Lib.hid kk
    clear kk
    obtain ⟨x0, x1, x2, x3, x4, x5, x6, x7⟩ := row8 (GB.out _ K1.out)
    go_wp2
    go_ret
    exact ⟨by rw [HR2.out]; rfl, KW.out.trans K1.out⟩
  · have RE := Lib.hid RR.out.2.2.1
    obtain ⟨r, hr⟩ : ∃ r, tp ++ (bs (mrk false 63) ++ bs (mrk true 126)) = r := ⟨_, rfl⟩
    rw [hr]
    have HR2 := Lib.hid (hr.symm.trans RE.out)
    clear hr RE RR
    go_enter Tryd.func55, Tryd.ntmps55
    go_wp2_with fail
    rw [← HW0.out]
    refine (C.out _).mono ?_
    rintro e w1 ⟨rfl, kk⟩
    have K1 := Lib.hid kk
    clear kk
    obtain ⟨x0, x1, x2, x3, x4, x5, x6, x7⟩ := row8 (GB.out _ K1.out)
    go_wp2
    go_ret
    exact ⟨by rw [HR2.out]; rfl, KW.out.trans K1.out⟩
  · have RE := Lib.hid RR.out.2.1
    obtain ⟨r, hr⟩ : ∃ r, tp ++ (bs (mrk true 63) ++ bs (mrk false 126)) = r := ⟨_, rfl⟩
    rw [hr]
    have HR2 := Lib.hid (hr.symm.trans RE.out)
    clear hr RE RR
    go_enter Tryd.func55, Tryd.ntmps55
    go_wp2_with fail
    rw [← HW0.out]
    refine (C.out _).mono ?_
    rintro e w1 ⟨rfl, kk⟩
    have K1 := Lib.hid kk
    clear kk
    obtain ⟨x0, x1, x2, x3, x4, x5, x6, x7⟩ := row8 (GB.out _ K1.out)
    go_wp2
    go_ret
    exact ⟨by rw [HR2.out]; rfl, KW.out.trans K1.out⟩
  · have RE := Lib.hid RR.out.2.2.2
    obtain ⟨r, hr⟩ : ∃ r, tp ++ (bs (mrk true 63) ++ bs (mrk true 126)) = r := ⟨_, rfl⟩
    rw [hr]
    have HR2 := Lib.hid (hr.symm.trans RE.out)
    clear hr RE RR
    go_enter Tryd.func55, Tryd.ntmps55
    go_wp2_with fail
    rw [← HW0.out]
    refine (C.out _).mono ?_
    rintro e w1 ⟨rfl, kk⟩
    have K1 := Lib.hid kk
    clear kk
    obtain ⟨x0, x1, x2, x3, x4, x5, x6, x7⟩ := row8 (GB.out _ K1.out)
    go_wp2
    go_ret
    exact ⟨by rw [HR2.out]; rfl, KW.out.trans K1.out⟩
abbrev rtS0 : Oper := { dst := some 10, op := Go.Op.fieldAddr 26 (Go.Operand.tmp 1) 4, type := 0, pos := "ref.go:14", after := #[], guard := none }
abbrev rtS1 : Oper := { dst := some 11, op := Go.Op.load 24 (Go.Operand.tmp 10), type := 24, pos := "ref.go:14", after := #[{ on := 0, ground := Go.Ground.data }], guard := none }
abbrev rtS2 : Oper := { dst := some 12, op := Go.Op.indexAddr 24 (Go.Operand.tmp 11) (Go.Operand.const (Go.Value.int Go.IntKind.i64 0)), type := 0, pos := "ref.go:14", after := #[{ on := 1, ground := Go.Ground.data }], guard := none }
abbrev rtS3 : Oper := { dst := some 13, op := Go.Op.load 26 (Go.Operand.tmp 12), type := 26, pos := "ref.go:14", after := #[{ on := 2, ground := Go.Ground.data }], guard := none }
abbrev rtS4 : Oper := { dst := some 14, op := Go.Op.call { callee := Go.Callee.value (Go.Operand.func 55), args := #[Go.Operand.tmp 13], argTypes := #[26] }, type := 9, pos := "ref.go:14", after := #[{ on := 3, ground := Go.Ground.data }], guard := none }
abbrev rtS5 : Oper := { dst := some 15, op := Go.Op.binOp Go.BinOp.add 9 (Go.Operand.tmp 14) (Go.Operand.const (Go.Value.string { data := #[47] })) 9, type := 9, pos := "ref.go:14", after := #[{ on := 4, ground := Go.Ground.data }], guard := none }
abbrev rtS6 : Oper := { dst := some 16, op := Go.Op.fieldAddr 26 (Go.Operand.tmp 1) 4, type := 0, pos := "ref.go:14", after := #[], guard := none }
abbrev rtS7 : Oper := { dst := some 17, op := Go.Op.load 24 (Go.Operand.tmp 16), type := 24, pos := "ref.go:14", after := #[{ on := 6, ground := Go.Ground.data }], guard := none }
abbrev rtS8 : Oper := { dst := some 18, op := Go.Op.indexAddr 24 (Go.Operand.tmp 17) (Go.Operand.const (Go.Value.int Go.IntKind.i64 1)), type := 0, pos := "ref.go:14", after := #[{ on := 7, ground := Go.Ground.data }], guard := none }
abbrev rtS9 : Oper := { dst := some 19, op := Go.Op.load 26 (Go.Operand.tmp 18), type := 26, pos := "ref.go:14", after := #[{ on := 8, ground := Go.Ground.data }], guard := none }
abbrev rtS10 : Oper := { dst := some 20, op := Go.Op.call { callee := Go.Callee.value (Go.Operand.func 55), args := #[Go.Operand.tmp 19], argTypes := #[26] }, type := 9, pos := "ref.go:14", after := #[{ on := 9, ground := Go.Ground.data }, { on := 4, ground := Go.Ground.chain }], guard := none }
abbrev rtS11 : Oper := { dst := some 21, op := Go.Op.binOp Go.BinOp.add 9 (Go.Operand.tmp 15) (Go.Operand.tmp 20) 9, type := 9, pos := "ref.go:14", after := #[{ on := 5, ground := Go.Ground.data }, { on := 10, ground := Go.Ground.data }], guard := none }
abbrev rtS12 : Oper := { dst := some 2, op := Go.Op.assign (Go.Operand.tmp 21), type := 9, pos := "ref.go:14", after := #[{ on := 11, ground := Go.Ground.data }, { on := 10, ground := Go.Ground.chain }, { on := 0, ground := Go.Ground.phase }, { on := 1, ground := Go.Ground.phase }, { on := 2, ground := Go.Ground.phase }, { on := 3, ground := Go.Ground.phase }, { on := 4, ground := Go.Ground.phase }, { on := 5, ground := Go.Ground.phase }, { on := 6, ground := Go.Ground.phase }, { on := 7, ground := Go.Ground.phase }, { on := 8, ground := Go.Ground.phase }, { on := 9, ground := Go.Ground.phase }, { on := 10, ground := Go.Ground.phase }, { on := 11, ground := Go.Ground.phase }], guard := none }
set_option maxHeartbeats 16000000 in
set_option maxRecDepth 100000 in
theorem rtx1_any (w0 : World) (v : Value) (l : List ND) (hh : ∃ ad cp, v = .slice ad l.length cp ∧ (0 < l.length → ∃ bk off, ad = some ⟨bk, off, none⟩ ∧ ∀ i, i < l.length → ∃ vi, RowN w0 bk (off + i * 8) (nth l i) vi ∧ NodesAt w0 vi (nth l i).l ∧ (fun v l => ∀ (k : Int) (p : PT) (a t : Bool) (w : World), Kp w0 w → wrB (.mk k p a t l) = true → shortN (.mk k p a t l) = true → cntL l ≤ 2000000 → (txN (.mk k p a t l)).length ≤ 1000000 →
      Calls Tryd.prog 55 #[ndV (.mk k p a t l) v] w fun e w' => e = .returned (.string (bs (txN (.mk k p a t l)))) ∧ Kp w w') vi (nth l i).l)) :
    ∀ (p : PT) (a t : Bool) (w : World), Kp w0 w → wrB (.mk 1 p a t l) = true → shortN (.mk 1 p a t l) = true → cntL l ≤ 2000000 → (txN (.mk 1 p a t l)).length ≤ 1000000 →
      Calls Tryd.prog 55 #[ndV (.mk 1 p a t l) v] w fun e w' => e = .returned (.string (bs (txN (.mk 1 p a t l)))) ∧ Kp w w' := by
  obtain ⟨ad, cp, rfl, hrow⟩ := hh
  intro p a t w k0 hw hsh hcn hlen
  obtain ⟨pk, y, m, q⟩ := p
  have HR := Lib.hid hrow
  have HWR := Lib.hid hw
  have HSH := Lib.hid hsh
  obtain ⟨W0, hW0⟩ : ∃ x, x = w.alloc (.cells #[.int .i64 1, .int .i64 pk, .string y, .string m, .string q, .bool a, .bool t, .slice ad l.length cp] 26) := ⟨_, rfl⟩
  have kw : Kp w W0 := by rw [hW0]; exact Kp.alloc _ _
  have gB : W0.heap[w.heap.size]? = some (.cells #[.int .i64 1, .int .i64 pk, .string y, .string m, .string q, .bool a, .bool t, .slice ad l.length cp] 26 (0, 0)) := by rw [hW0]; exact heap_at _ _ _ rfl
  have GB := Lib.hid (fun w1 (q : Kp W0 w1) => heap_block q gB)
  have K0 := Lib.hid (k0.trans kw)
  have KW9 := Lib.hid k0
  have KW := Lib.hid kw
  have HW0 := Lib.hid hW0
  unfold ndV
  simp only [ND.k, ND.p, ND.a, ND.t, ND.l]
  clear hrow k0 kw gB hw hW0 hsh
  obtain ⟨x, z, rfl, wx, wz⟩ : ∃ x z, l = [x, z] ∧ wrB x = true ∧ wrB z = true := by
    rcases wr_kinds HWR.out with h | ⟨_, x, z, h⟩ | h | h | h
    · exact absurd h.1 (by decide)
    · exact ⟨x, z, h⟩
    · exact absurd h.1 (by decide)
    · exact absurd h (by decide)
    · exact absurd h (by decide)
  rw [show txN (.mk 1 ⟨pk, y, m, q⟩ a t [x, z]) = txN x ++ ([47] ++ txN z) by simp [txN, txJ]] at hlen ⊢
  obtain ⟨bk, off, rfl, hall⟩ := HR.out (by simp)
  obtain ⟨vx, rx, sx, ix⟩ := hall 0 (by simp)
  obtain ⟨vz, rz, sz, iz⟩ := hall 1 (by simp)
  rw [show nth [x, z] 0 = x from rfl] at rx sx ix
  rw [show nth [x, z] 1 = z from rfl] at rz sz iz
  have shl := short_l HSH.out
  have shx : shortN x = true := short_at shl (i := 0) (by simp [ND.l])
  have shz : shortN z = true := short_at shl (i := 1) (by simp [ND.l])
  have cx9 : cntL x.l ≤ 2000000 ∧ cntL z.l ≤ 2000000 := by simp only [cntL] at hcn; have := cntN_mk x; have := cntN_mk z; omega
  simp only [List.length_append, List.length_cons, List.length_nil] at hlen
  have lx : (bs (txN x)).size ≤ 1000000 := by rw [bs_size]; omega
  have lz : (bs (txN z)).size ≤ 1000000 := by rw [bs_size]; omega
  have IX := Lib.hid (fun w1 (k1 : Kp w0 w1) => ix x.k x.p x.a x.t w1 k1 (by rw [← eta_nd]; exact wx) (by rw [← eta_nd]; exact shx) cx9.1 (by rw [← eta_nd]; omega))
  have IZ := Lib.hid (fun w1 (k1 : Kp w0 w1) => iz z.k z.p z.a z.t w1 k1 (by rw [← eta_nd]; exact wz) (by rw [← eta_nd]; exact shz) cx9.2 (by rw [← eta_nd]; omega))
  rw [← eta_nd x] at IX
  rw [← eta_nd z] at IZ
  obtain ⟨adx, cpx, rfl⟩ := sx.slice
  obtain ⟨adz, cpz, rfl⟩ := sz.slice
  have RX := Lib.hid rx
  have RZ := Lib.hid rz
  rw [bs_append, bs_append]
  obtain ⟨tx, htx⟩ : ∃ u, bs (txN x) = u := ⟨_, rfl⟩
  obtain ⟨tz, htz⟩ : ∃ u, bs (txN z) = u := ⟨_, rfl⟩
  rw [htx] at IX lx ⊢
  rw [htz] at IZ lz ⊢
  have q1 : ¬ 9223372036854775807 < tx.size + 1 := by omega
  have q2 : ¬ 9223372036854775807 < tx.size + 1 + tz.size := by omega
  have HRR := Lib.hid (show (tx ++ (⟨#[47]⟩ : ByteArray)) ++ tz = tx ++ (bs [47] ++ tz) by rw [ByteArray.append_assoc]; rfl)
  obtain ⟨r, hr⟩ : ∃ r, tx ++ (bs [47] ++ tz) = r := ⟨_, rfl⟩
  rw [hr]
  have HR2 := Lib.hid (HRR.out.trans hr)
  obtain ⟨k1, ⟨pk1, y1, m1, q1⟩, a1, t1, l1⟩ := x
  obtain ⟨k2, ⟨pk2, y2, m2, q2⟩, a2, t2, l2⟩ := z
  unfold RowN at RX RZ
  unfold ndV at IX IZ
  simp only [ND.k, ND.p, ND.a, ND.t, ND.l, List.length_cons, List.length_nil, Nat.reduceAdd, Nat.zero_mul, Nat.add_zero, Nat.one_mul] at IX IZ RX RZ GB HW0 ⊢
  obtain ⟨g0, g1, g2, g3, g4, g5, g6, g7⟩ := RX.out
  obtain ⟨h0, h1, h2, h3, h4, h5, h6, h7⟩ := RZ.out
  have KS := Lib.hid (fun w' (qq : Kp W0 w') => show w'.cell? ⟨w.heap.size, 7, none⟩ = some (.slice (some ⟨bk, off, none⟩) 2 cp) ∧ w'.cell? ⟨bk, off, none⟩ = some (.int .i64 k1) ∧ w'.cell? ⟨bk, off + 1, none⟩ = some (.int .i64 pk1) ∧ w'.cell? ⟨bk, off + 2, none⟩ = some (.string y1) ∧ w'.cell? ⟨bk, off + 3, none⟩ = some (.string m1) ∧ w'.cell? ⟨bk, off + 4, none⟩ = some (.string q1) ∧ w'.cell? ⟨bk, off + 5, none⟩ = some (.bool a1) ∧ w'.cell? ⟨bk, off + 6, none⟩ = some (.bool t1) ∧ w'.cell? ⟨bk, off + 7, none⟩ = some (.slice adx l1.length cpx) ∧ w'.cell? ⟨bk, off + 8, none⟩ = some (.int .i64 k2) ∧ w'.cell? ⟨bk, off + 9, none⟩ = some (.int .i64 pk2) ∧ w'.cell? ⟨bk, off + 10, none⟩ = some (.string y2) ∧ w'.cell? ⟨bk, off + 11, none⟩ = some (.string m2) ∧ w'.cell? ⟨bk, off + 12, none⟩ = some (.string q2) ∧ w'.cell? ⟨bk, off + 13, none⟩ = some (.bool a2) ∧ w'.cell? ⟨bk, off + 14, none⟩ = some (.bool t2) ∧ w'.cell? ⟨bk, off + 15, none⟩ = some (.slice adz l2.length cpz) ∧ Kp W0 w' from ⟨(row8 (GB.out _ qq)).2.2.2.2.2.2.2, cell_up (K0.out.trans qq) g0, cell_up (K0.out.trans qq) g1, cell_up (K0.out.trans qq) g2, cell_up (K0.out.trans qq) g3, cell_up (K0.out.trans qq) g4, cell_up (K0.out.trans qq) g5, cell_up (K0.out.trans qq) g6, cell_up (K0.out.trans qq) g7, cell_up (K0.out.trans qq) h0, cell_up (K0.out.trans qq) h1, cell_up (K0.out.trans qq) h2, cell_up (K0.out.trans qq) h3, cell_up (K0.out.trans qq) h4, cell_up (K0.out.trans qq) h5, cell_up (K0.out.trans qq) h6, cell_up (K0.out.trans qq) h7, qq⟩)
  clear rx rz sx sz hall HR wx wz ix iz htx htz hlen hcn hr HRR shl shx shz cx9 g0 g1 g2 g3 g4 g5 g6 g7 h0 h1 h2 h3 h4 h5 h6 h7
  go_enter Tryd.func55, Tryd.ntmps55
  go_wp2_with fail
  rw [← HW0.out]
  refine wp_region_held_drew (S := fun w' => w'.cell? ⟨w.heap.size, 7, none⟩ = some (.slice (some ⟨bk, off, none⟩) 2 cp) ∧ w'.cell? ⟨bk, off, none⟩ = some (.int .i64 k1) ∧ w'.cell? ⟨bk, off + 1, none⟩ = some (.int .i64 pk1) ∧ w'.cell? ⟨bk, off + 2, none⟩ = some (.string y1) ∧ w'.cell? ⟨bk, off + 3, none⟩ = some (.string m1) ∧ w'.cell? ⟨bk, off + 4, none⟩ = some (.string q1) ∧ w'.cell? ⟨bk, off + 5, none⟩ = some (.bool a1) ∧ w'.cell? ⟨bk, off + 6, none⟩ = some (.bool t1) ∧ w'.cell? ⟨bk, off + 7, none⟩ = some (.slice adx l1.length cpx) ∧ w'.cell? ⟨bk, off + 8, none⟩ = some (.int .i64 k2) ∧ w'.cell? ⟨bk, off + 9, none⟩ = some (.int .i64 pk2) ∧ w'.cell? ⟨bk, off + 10, none⟩ = some (.string y2) ∧ w'.cell? ⟨bk, off + 11, none⟩ = some (.string m2) ∧ w'.cell? ⟨bk, off + 12, none⟩ = some (.string q2) ∧ w'.cell? ⟨bk, off + 13, none⟩ = some (.bool a2) ∧ w'.cell? ⟨bk, off + 14, none⟩ = some (.bool t2) ∧ w'.cell? ⟨bk, off + 15, none⟩ = some (.slice adz l2.length cpz) ∧ Kp W0 w') (by kernel_rfl) ?_ (fun hHeld0 => ?_)
  · (try dsimp only); exact KS.out _ (by first | assumption | exact Kp.drew _ | exact Kp.refl _)
  refine tkW (v := ?_) 0 rtS0 rfl (by kernel_rfl) (by kernel_rfl) (by kernel_rfl) (fun _ _ _ h => h) (by rfl) ?_ (by assumption) ?_
  rotate_left
  · intro w hSw; (try dsimp only at hSw); go_simp; (try with_reducible rfl)
  (try simp only [Act.put, rtS0, List.setIfInBounds_toArray, List.set_cons_zero, List.set_cons_succ])
  refine tkW (v := ?_) 1 rtS1 rfl (by kernel_rfl) (by kernel_rfl) (by kernel_rfl) (fun _ _ _ h => h) (by rfl) ?_ (by assumption) ?_
  rotate_left
  · intro w hSw; (try dsimp only at hSw); go_simp; (try with_reducible rfl)
  (try simp only [Act.put, rtS1, List.setIfInBounds_toArray, List.set_cons_zero, List.set_cons_succ])
  refine tkW (v := ?_) 2 rtS2 rfl (by kernel_rfl) (by kernel_rfl) (by kernel_rfl) (fun _ _ _ h => h) (by rfl) ?_ (by assumption) ?_
  rotate_left
  · intro w hSw; (try dsimp only at hSw); go_simp; (try with_reducible rfl)
  (try simp only [Act.put, rtS2, List.setIfInBounds_toArray, List.set_cons_zero, List.set_cons_succ])
  refine tkW (v := ?_) 3 rtS3 rfl (by kernel_rfl) (by kernel_rfl) (by kernel_rfl) (fun _ _ _ h => h) (by rfl) ?_ (by assumption) ?_
  rotate_left
  · intro w hSw; (try dsimp only at hSw); go_simp; (try with_reducible rfl)
  (try simp only [Act.put, rtS3, List.setIfInBounds_toArray, List.set_cons_zero, List.set_cons_succ])
  refine tkW (v := ?_) 6 rtS6 rfl (by kernel_rfl) (by kernel_rfl) (by kernel_rfl) (fun _ _ _ h => h) (by rfl) ?_ (by assumption) ?_
  rotate_left
  · intro w hSw; (try dsimp only at hSw); go_simp; (try with_reducible rfl)
  (try simp only [Act.put, rtS6, List.setIfInBounds_toArray, List.set_cons_zero, List.set_cons_succ])
  refine tkW (v := ?_) 7 rtS7 rfl (by kernel_rfl) (by kernel_rfl) (by kernel_rfl) (fun _ _ _ h => h) (by rfl) ?_ (by assumption) ?_
  rotate_left
  · intro w hSw; (try dsimp only at hSw); go_simp; (try with_reducible rfl)
  (try simp only [Act.put, rtS7, List.setIfInBounds_toArray, List.set_cons_zero, List.set_cons_succ])
  refine tkW (v := ?_) 8 rtS8 rfl (by kernel_rfl) (by kernel_rfl) (by kernel_rfl) (fun _ _ _ h => h) (by rfl) ?_ (by assumption) ?_
  rotate_left
  · intro w hSw; (try dsimp only at hSw); go_simp; (try with_reducible rfl)
  (try simp only [Act.put, rtS8, List.setIfInBounds_toArray, List.set_cons_zero, List.set_cons_succ])
  refine tkW (v := ?_) 9 rtS9 rfl (by kernel_rfl) (by kernel_rfl) (by kernel_rfl) (fun _ _ _ h => h) (by rfl) ?_ (by assumption) ?_
  rotate_left
  · intro w hSw; (try dsimp only at hSw); go_simp; (try with_reducible rfl)
  (try simp only [Act.put, rtS9, List.setIfInBounds_toArray, List.set_cons_zero, List.set_cons_succ])
  refine tkE 4 rtS4 rfl (by kernel_rfl) (fun K hK => ?_)
  go_simp
  (refine (IX.out _ (K0.out.trans (by first | assumption | exact Kp.drew _ | exact Kp.refl _))).mono ?_; rintro e w' ⟨rfl, kq⟩; have k2 := Kp.trans (show Kp W0 _ from (by first | assumption | exact Kp.drew _ | exact Kp.refl _)) kq; clear kq)
  (try go_wp2_with fail)
  refine hK.out _ _ ?_ (fun hHeld1 => ?_)
  · (try dsimp only); exact KS.out _ (by first | assumption | exact Kp.drew _ | exact Kp.refl _)
  clear hK K hHeld0
  (try simp only [Act.put, rtS4, List.setIfInBounds_toArray, List.set_cons_zero, List.set_cons_succ])
  refine tkW (v := ?_) 5 rtS5 rfl (by kernel_rfl) (by kernel_rfl) (by kernel_rfl) (fun _ _ _ h => h) (by rfl) ?_ (by assumption) ?_
  rotate_left
  · intro w hSw; (try dsimp only at hSw); go_simp; (try with_reducible rfl)
  (try simp only [Act.put, rtS5, List.setIfInBounds_toArray, List.set_cons_zero, List.set_cons_succ])
  refine tkE 10 rtS10 rfl (by kernel_rfl) (fun K hK => ?_)
  go_simp
  (refine (IZ.out _ (K0.out.trans (by first | assumption | exact Kp.drew _ | exact Kp.refl _))).mono ?_; rintro e w' ⟨rfl, kq⟩; have k2 := Kp.trans (show Kp W0 _ from (by first | assumption | exact Kp.drew _ | exact Kp.refl _)) kq; clear kq)
  (try go_wp2_with fail)
  refine hK.out _ _ ?_ (fun hHeld2 => ?_)
  · (try dsimp only); exact KS.out _ (by first | assumption | exact Kp.drew _ | exact Kp.refl _)
  clear hK K hHeld1
  (try simp only [Act.put, rtS10, List.setIfInBounds_toArray, List.set_cons_zero, List.set_cons_succ])
  refine tkW (v := ?_) 11 rtS11 rfl (by kernel_rfl) (by kernel_rfl) (by kernel_rfl) (fun _ _ _ h => h) (by rfl) ?_ (by assumption) ?_
  rotate_left
  · intro w hSw; (try dsimp only at hSw); go_simp; (try with_reducible rfl)
  (try simp only [Act.put, rtS11, List.setIfInBounds_toArray, List.set_cons_zero, List.set_cons_succ])
  refine tkW (v := ?_) 12 rtS12 rfl (by kernel_rfl) (by kernel_rfl) (by kernel_rfl) (fun _ _ _ h => h) (by rfl) ?_ (by assumption) ?_
  rotate_left
  · intro w hSw; (try dsimp only at hSw); go_simp; (try with_reducible rfl)
  (try simp only [Act.put, rtS12, List.setIfInBounds_toArray, List.set_cons_zero, List.set_cons_succ])
  refine wpAnyH_done (by kernel_rfl) ?_ _
  have KE := KW.out.trans k2
  go_wp2
  go_ret
  exact ⟨by rw [← HR2.out]; rfl, KE⟩
set_option maxHeartbeats 16000000 in
set_option maxRecDepth 100000 in
theorem rtx2_any (w0 : World) (v : Value) (l : List ND) (hh : ∃ ad cp, v = .slice ad l.length cp ∧ (0 < l.length → ∃ bk off, ad = some ⟨bk, off, none⟩ ∧ ∀ i, i < l.length → ∃ vi, RowN w0 bk (off + i * 8) (nth l i) vi ∧ NodesAt w0 vi (nth l i).l ∧ (fun v l => ∀ (k : Int) (p : PT) (a t : Bool) (w : World), Kp w0 w → wrB (.mk k p a t l) = true → shortN (.mk k p a t l) = true → cntL l ≤ 2000000 → (txN (.mk k p a t l)).length ≤ 1000000 →
      Calls Tryd.prog 55 #[ndV (.mk k p a t l) v] w fun e w' => e = .returned (.string (bs (txN (.mk k p a t l)))) ∧ Kp w w') vi (nth l i).l)) :
    ∀ (p : PT) (a t : Bool) (w : World), Kp w0 w → wrB (.mk 2 p a t l) = true → shortN (.mk 2 p a t l) = true → cntL l ≤ 2000000 → (txN (.mk 2 p a t l)).length ≤ 1000000 →
      Calls Tryd.prog 55 #[ndV (.mk 2 p a t l) v] w fun e w' => e = .returned (.string (bs (txN (.mk 2 p a t l)))) ∧ Kp w w' := by
  obtain ⟨ad, cp, rfl, hrow⟩ := hh
  intro p a t w k0 hw hsh hcn hlen
  obtain ⟨pk, y, m, q⟩ := p
  have HR := Lib.hid hrow
  have HWR := Lib.hid hw
  have HSH := Lib.hid hsh
  obtain ⟨W0, hW0⟩ : ∃ x, x = w.alloc (.cells #[.int .i64 2, .int .i64 pk, .string y, .string m, .string q, .bool a, .bool t, .slice ad l.length cp] 26) := ⟨_, rfl⟩
  have kw : Kp w W0 := by rw [hW0]; exact Kp.alloc _ _
  have gB : W0.heap[w.heap.size]? = some (.cells #[.int .i64 2, .int .i64 pk, .string y, .string m, .string q, .bool a, .bool t, .slice ad l.length cp] 26 (0, 0)) := by rw [hW0]; exact heap_at _ _ _ rfl
  have GB := Lib.hid (fun w1 (q : Kp W0 w1) => heap_block q gB)
  have K0 := Lib.hid (k0.trans kw)
  have KW9 := Lib.hid k0
  have KW := Lib.hid kw
  have HW0 := Lib.hid hW0
  unfold ndV
  simp only [ND.k, ND.p, ND.a, ND.t, ND.l]
  clear hrow k0 kw gB hw hW0 hsh
  obtain ⟨hpos, hall2⟩ : 0 < l.length ∧ ∀ x ∈ l, wrB x = true := by
    rcases wr_kinds2 HWR.out with h | ⟨h, _⟩ | h | h | h
    · exact absurd h.1 (by decide)
    · exact absurd h (by decide)
    · exact h.2
    · exact absurd h (by decide)
    · exact absurd h (by decide)
  have shl := short_l HSH.out
  have HA := Lib.hid (fun i (hi : i < l.length) => And.intro (hall2 _ (nth_mem hi)) (show shortN (nth l i) = true from short_at shl hi))
  rw [show txN (.mk 2 ⟨pk, y, m, q⟩ a t l) = txJ l [91] [44, 32] ++ [93] by simp [txN]] at hlen ⊢
  have TK := Lib.hid (fun i (hi : i < l.length) => txJ_take hi [91] [44, 32])
  have TL := Lib.hid (fun i => txJ_le l i [91] [44, 32])
  have hl9 : (txJ l [91] [44, 32]).length + 1 ≤ 1000000 := by simp only [List.length_append, List.length_cons, List.length_nil] at hlen; omega
  have HL9 := Lib.hid hl9
  have ll := len_cntL l
  have CA := Lib.hid (fun i (hi : i < l.length) => (show cntL (nth l i).l ≤ 2000000 by have := cnt_at hi; have := cntN_mk (nth l i); omega))
  have HP := Lib.hid hpos
  rw [bs_append]
  have HRR := Lib.hid (show bs (txJ l [91] [44, 32]) ++ (⟨#[93]⟩ : ByteArray) = bs (txJ l [91] [44, 32]) ++ bs [93] from rfl)
  obtain ⟨r, hr⟩ : ∃ r, bs (txJ l [91] [44, 32]) ++ bs [93] = r := ⟨_, rfl⟩
  rw [hr]
  have HR2 := Lib.hid (HRR.out.trans hr)
  clear hall2 hlen hl9 hr HRR shl
  go_enter Tryd.func55, Tryd.ntmps55
  go_wp2
  rw [← HW0.out]
  go_loopw [3, 4] (fun s i ws => ∃ j : Nat, j ≤ l.length ∧ i = .int .i64 j ∧ s = .string (bs (if j = 0 then [91] else txJ (l.take j) [91] [44, 32])) ∧ Hid (Kp W0 ws)) (fun _ i _ => l.length - (intOf i).toNat)
  case atStart => exact ⟨0, Nat.zero_le _, rfl, rfl, Lib.hid (Kp.refl _)⟩
  case round =>
    obtain ⟨j, hj, rfl, rfl, KJ⟩ := hrel
    obtain ⟨x0, x1, x2, x3, x4, x5, x6, x7⟩ := row8 (GB.out _ KJ.out)
    by_cases hlt : j < l.length
    · obtain ⟨bk, off, rfl, hall⟩ := HR.out (by omega)
      obtain ⟨vi, hrow, hsub, ih⟩ := hall j hlt
      have kw0 : Kp w0 wr := K0.out.trans KJ.out
      obtain ⟨e0, e1, e2, e3, e4, e5, e6, e7⟩ := hrow.kp kw0
      obtain ⟨wj, sj⟩ := HA.out j hlt
      have cj := CA.out j hlt
      have tk := TK.out j hlt
      have tl := TL.out (j + 1)
      have hl9 := HL9.out
      rw [tk, List.length_append, List.length_append] at tl
      obtain ⟨x, hx⟩ : ∃ x, nth l j = x := ⟨_, rfl⟩
      rw [hx] at e0 e1 e2 e3 e4 e5 e6 wj sj cj tk tl hsub ih
      have IX := fun w1 (k1 : Kp w0 w1) => ih x.k x.p x.a x.t w1 k1 (by rw [← eta_nd]; exact wj) (by rw [← eta_nd]; exact sj) cj (by rw [← eta_nd]; omega)
      rw [← eta_nd x] at IX
      have l1 : (bs (txN x)).size ≤ 1000000 := by rw [bs_size]; omega
      have l2 : (bs (if j = 0 then [91] else txJ (l.take j) [91] [44, 32])).size ≤ 1000000 := by rw [bs_size]; by_cases e : j = 0 <;> simp [e] <;> omega
      have TKH := Lib.hid (show bs (if j + 1 = 0 then [91] else txJ (l.take (j + 1)) [91] [44, 32]) = (if j = 0 then bs (if j = 0 then [91] else txJ (l.take j) [91] [44, 32]) else bs (if j = 0 then [91] else txJ (l.take j) [91] [44, 32]) ++ (⟨#[44, 32]⟩ : ByteArray)) ++ bs (txN x) by
        rw [if_neg (by omega), tk, bs_append, bs_append]
        by_cases e : j = 0
        · subst e; simp [txJ, bs]; exact bempty0 _
        · rw [if_neg e, if_neg e, if_neg e, ← ByteArray.append_assoc]; rfl)
      obtain ⟨tx, htx⟩ : ∃ u, bs (txN x) = u := ⟨_, rfl⟩
      rw [htx] at IX l1 TKH
      obtain ⟨tj, htj⟩ : ∃ u, bs (if j = 0 then [91] else txJ (l.take j) [91] [44, 32]) = u := ⟨_, rfl⟩
      rw [htj] at l2 TKH ⊢
      clear hx hrow hall wj sj cj tk tl hl9 htx htj ih
      obtain ⟨k1, ⟨pk1, y1, m1, q1⟩, a1, t1, l1'⟩ := x
      simp only [ND.k, ND.p, ND.a, ND.t, ND.l] at e0 e1 e2 e3 e4 e5 e6 hsub
      obtain ⟨ad1, cp1, rfl⟩ := hsub.slice
      (try unfold ndV at IX)
      simp only [ND.k, ND.p, ND.a, ND.t, ND.l] at IX
      have IXH := Lib.hid IX
      have KW0 := Lib.hid kw0
      have z1 : (j : Int) < (l.length : Int) := by omega
      have z3 : (0 : Int) ≤ (j : Int) := by omega
      have HLT := Lib.hid hlt
      clear hsub IX kw0
      by_cases hj0 : j = 0
      · have g1 : decide ((0 : Int) < (j : Int)) = false := decide_eq_false (by omega)
        have g2 : decide (0 < j) = false := decide_eq_false (by omega)
        rw [if_pos hj0] at TKH
        clear hj0
        go_wp2_with fail
        refine (IXH.out _ KW0.out).mono ?_
        rintro e w7 ⟨rfl, kk⟩
        have K7 := Lib.hid (KJ.out.trans kk)
        clear kk e0 e1 e2 e3 e4 e5 e6 e7 x0 x1 x2 x3 x4 x5 x6 x7
        go_wp2
        go_roundw
        case rel => exact ⟨j + 1, HLT.out, by go_num, by rw [TKH.out], K7⟩
        case measure => have := HLT.out; simp [intOf]; omega
      · have g1 : decide ((0 : Int) < (j : Int)) = true := decide_eq_true (by omega)
        have g2 : decide (0 < j) = true := decide_eq_true (by omega)
        rw [if_neg hj0] at TKH
        have q1 : ¬ 9223372036854775807 < tj.size + 2 := by omega
        have q2 : ¬ 9223372036854775807 < tj.size + 2 + tx.size := by omega
        clear hj0
        go_wp2_with fail
        refine (IXH.out _ KW0.out).mono ?_
        rintro e w7 ⟨rfl, kk⟩
        have K7 := Lib.hid (KJ.out.trans kk)
        clear kk e0 e1 e2 e3 e4 e5 e6 e7 x0 x1 x2 x3 x4 x5 x6 x7
        go_wp2
        go_roundw
        case rel => exact ⟨j + 1, HLT.out, by go_num, by rw [TKH.out], K7⟩
        case measure => have := HLT.out; simp [intOf]; omega
    · obtain rfl : j = l.length := by omega
      rw [List.take_length, if_neg (by have := HP.out; omega)]
      have hl9 := HL9.out
      have lz : (bs (txJ l [91] [44, 32])).size ≤ 1000000 := by rw [bs_size]; omega
      obtain ⟨tj, htj⟩ : ∃ u, bs (txJ l [91] [44, 32]) = u := ⟨_, rfl⟩
      rw [htj] at lz HR2 ⊢
      clear htj hl9
      go_wp2
      go_ret
      exact ⟨by rw [← HR2.out]; rfl, KW.out.trans KJ.out⟩
theorem rtext_any (w0 : World) : ∀ {v : Value} {l : List ND}, NodesAt w0 v l → ∀ (k : Int) (p : PT) (a t : Bool) (w : World), Kp w0 w → wrB (.mk k p a t l) = true → shortN (.mk k p a t l) = true → cntL l ≤ 2000000 → (txN (.mk k p a t l)).length ≤ 1000000 →
      Calls Tryd.prog 55 #[ndV (.mk k p a t l) v] w fun e w' => e = .returned (.string (bs (txN (.mk k p a t l)))) ∧ Kp w w' := by
  refine @NodesAt.ind w0 (fun v l => ∀ (k : Int) (p : PT) (a t : Bool) (w : World), Kp w0 w → wrB (.mk k p a t l) = true → shortN (.mk k p a t l) = true → cntL l ≤ 2000000 → (txN (.mk k p a t l)).length ≤ 1000000 →
      Calls Tryd.prog 55 #[ndV (.mk k p a t l) v] w fun e w' => e = .returned (.string (bs (txN (.mk k p a t l)))) ∧ Kp w w') ?_
  intro v l hh k p a t w k0 hw hs hc hlen
  rcases wr_kinds hw with ⟨rfl, _⟩ | ⟨rfl, _⟩ | ⟨rfl, _⟩ | rfl | rfl
  · exact rtx0_any w0 v l hh p a t w k0 hw hs hc hlen
  · exact rtx1_any w0 v l hh p a t w k0 hw hs hc hlen
  · exact rtx2_any w0 v l hh p a t w k0 hw hs hc hlen
  · exact rtx3_any w0 v l hh p a t w k0 hw hs hc hlen
  · exact rtx4_any w0 v l hh p a t w k0 hw hs hc hlen
set_option maxHeartbeats 16000000 in
set_option maxRecDepth 100000 in
theorem rText11_any (n : ND) (v : Value) (w : World) (h : NodesAt w v n.l) (hs : shortN n = true) (hc : cntL n.l ≤ 2000000) :
    Calls Tryd.prog 45 #[ndV n v] w fun e w' => e = .returned (.string (bs (textN n))) ∧ Kp w w' := by
  have CS := Lib.hid (fun w1 (qq : Kp w w1) => rsaneN_any n v w1 (h.kp qq) hs hc)
  have CW := Lib.hid (fun w1 (qq : Kp w w1) hw hl => rtext_any w h n.k n.p n.a n.t w1 qq hw (by rw [← eta_nd]; exact hs) hc hl)
  have WR := Lib.hid (show saneN saneP n = true → wrB n = true from fun hs => by
    unfold saneN at hs
    simp only [Bool.and_eq_true] at hs
    unfold wrB
    rw [hs.2.2, Bool.or_true])
  have LE := Lib.hid (fun hs => (txN_len900 (n := n) hs).1)
  rw [← eta_nd n] at CW
  unfold textN
  generalize saneN saneP n = sb at *
  generalize txN n = tx at *
  obtain ⟨ad, cp, rfl⟩ := h.slice
  obtain ⟨k, pk, y, m, q, a, t, l, rfl⟩ := nd_dest n
  unfold ndV at *
  simp only [ND.k, ND.p, ND.a, ND.t, ND.l] at *
  clear h hs hc
  cases sb with
  | false =>
    rw [if_neg (by decide)]
    go_enter Tryd.func45, Tryd.ntmps45
    go_wp2_with fail
    refine (CS.out _ (Kp.alloc _ _)).mono ?_
    rintro e w1 ⟨rfl, kk⟩
    have K1 := Lib.hid ((Kp.alloc _ _).trans kk)
    clear kk
    go_wp2
    go_ret
    exact ⟨rfl, K1.out⟩
  | true =>
    rw [if_pos rfl]
    have hw := WR.out rfl
    have hl := LE.out rfl
    clear WR LE
    have HW := Lib.hid hw
    have HL := Lib.hid (show tx.length ≤ 1000000 by omega)
    clear hw hl
    go_enter Tryd.func45, Tryd.ntmps45
    go_wp2_with fail
    refine (CS.out _ (Kp.alloc _ _)).mono ?_
    rintro e w1 ⟨rfl, kk⟩
    have K1 := Lib.hid ((Kp.alloc _ _).trans kk)
    have GB := Lib.hid (heap_block kk (heap_at w (.cells #[.int .i64 k, .int .i64 pk, .string y, .string m, .string q, .bool a, .bool t, .slice ad l.length cp] 26) w.heap.size rfl))
    clear kk
    obtain ⟨x0, x1, x2, x3, x4, x5, x6, x7⟩ := row8 GB.out
    go_wp2_with fail
    refine (CW.out w1 K1.out HW.out HL.out).mono ?_
    rintro e w3 ⟨rfl, kk⟩
    have K3 := Lib.hid (K1.out.trans kk)
    clear kk x0 x1 x2 x3 x4 x5 x6 x7
    go_wp2
    go_ret
    exact ⟨rfl, K3.out⟩
end Go.Proofs.YtgmigeehfhkimaaDoor
