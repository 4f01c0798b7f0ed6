/-
  Walk of MaskRuns: how many runs.
-/
import Derived.Test.YtgjdaaopebkokaaMaskU
namespace Go.Proofs.Ytgjdaaopebkokaa
open Go.RowKit
set_option linter.unusedVariables false
set_option maxHeartbeats 2000000 in
set_option maxRecDepth 100000 in
theorem maskRuns_walk (s : ByteArray) (w : World) :
    Calls Try.prog 7 #[.string s] w fun e w' => e = .returned (.bool true) ∧ Below w.heap.size w w' := by
  have A0 := Lib.hid (fun w => awake06 w)
  have A1 := Lib.hid (fun w => msane_any s w)
  have A2 := Lib.hid (fun w => mset_any s w)
  rcases Bool.eq_false_or_eq_true (saneM s) with h | h
  · rw [h] at A1
    have M := mk_of h
    obtain ⟨m1, m2, m3⟩ := M
    have U := row_all s
    have RB := Lib.hid (fun j => row_bd s j)
    have G := (setK_ok s m3 s.size (Nat.le_refl _)).1
    have PB := P10_le s.size m2
    rw [show setM s = setK s s.size by unfold setM; rw [h]; rfl] at A2
    have R0 := Lib.hid (show rowM s 0 = (1, 1, false) from rfl)
    generalize setK s s.size = l at *
    have GL := Lib.hid G
    have UL := Lib.hid U
    clear G U m3 h
    go_enter Try.func7, Try.ntmps7
    go_wp2_with fail; refine (A0.out _).mono ?_; rintro e w1 ⟨rfl, k1⟩; have K1 := Lib.hid (id k1); clear k1
    go_wp2_with fail; refine (A1.out _).mono ?_; rintro e w2 ⟨rfl, k1⟩; have K2 := Lib.hid (K1.out.trans k1); clear k1
    go_wp2
    go_loopw [4, 5, 6, 7] (fun m n d i wr => ∃ p : Nat, p ≤ s.size ∧ i = .int .i64 ((p : Int) - 1) ∧ m = .int .i64 (rowM s (s.size - p)).1 ∧ n = .int .i64 (rowM s (s.size - p)).2.1 ∧ d = .bool (rowM s (s.size - p)).2.2 ∧ wr = w2) (fun _ _ _ i _ => (intOf i + 1).toNat)
    case atStart => exact ⟨s.size, by omega, rfl, by rw [Nat.sub_self]; rfl, by rw [Nat.sub_self]; rfl, by rw [Nat.sub_self]; rfl, rfl⟩
    case round =>
      obtain ⟨p, hp, rfl, rfl, rfl, rfl, rfl⟩ := hrel
      cases p with
      | zero =>
        have bd := RB.out (s.size - 0)
        rw [Nat.sub_zero] at bd ⊢
        have U1 := UL.out.1
        have U2 := Lib.hid UL.out.2
        obtain ⟨R, hR⟩ : ∃ R, rowM s s.size = R := ⟨_, rfl⟩
        rw [hR] at bd U1 U2 ⊢
        obtain ⟨m, n, d⟩ := R
        simp only at bd U1 U2 ⊢
        obtain ⟨b1, b2, b3, b4⟩ := bd
        clear hR
        subst U1
        go_wp2_with fail
        refine (A2.out _).mono ?_
        rintro e w3 ⟨v, rfl, own, k1⟩
        have K3 := Lib.hid (K2.out.trans k1)
        rcases runsAt_own own with ⟨_, e⟩ | ⟨b, off, cap, rfl, hc, hm, hx⟩
        · subst e; simp at b1
        have HX := Lib.hid hx
        have hl : l.length ≤ 10000 := by omega
        clear own k1 hx hc hm b2
        go_wp2
        go_loopw [9] (fun i wr => ∃ k : Nat, k ≤ l.length ∧ i = .int .i64 k ∧ Kp w3 wr) (fun i _ => l.length - (intOf i).toNat)
        case atStart => exact ⟨0, by omega, rfl, Kp.refl _⟩
        case round =>
          obtain ⟨k, hk, rfl, k4⟩ := hrel
          have K4 := Lib.hid k4
          clear k4
          by_cases hlt : k < l.length
          · obtain ⟨c1, c2⟩ := HX.out k hlt
            have d1 := (Below.cell (p := ⟨b, off + k * 2, none⟩) K4.out (World.block_lt_of_cell? _ _ c1)).trans c1
            have d2 := (Below.cell (p := ⟨b, off + k * 2 + 1, none⟩) K4.out (World.block_lt_of_cell? _ _ c2)).trans c2
            clear c1 c2
            have mem : at_ l k ∈ l := by
              have : at_ l k = l[k] := by unfold at_; simp [List.getD, hlt]
              rw [this]; exact List.getElem_mem hlt
            have u := U2.out _ mem
            obtain ⟨o1, o2, o3⟩ := GL.out _ mem
            obtain ⟨lo, hi', ee⟩ : ∃ x y, at_ l k = (x, y) := ⟨_, _, rfl⟩
            rw [ee] at d1 d2 o1 o2 o3 u
            simp only at d1 d2 o1 o2 o3 u
            have o4 : hi' ≤ 10000 := by omega
            clear ee mem o3
            have g : (hi' - lo + 1 != n) = false := by rw [u]; simp
            clear u
            go_wp2_with fail
            go_quiet (fail)
            go_wp2
            go_roundw
            case rel => exact ⟨k + 1, by omega, by go_num, K4.out.trans (Kp.drewN _ _)⟩
            case measure => simp [intOf]; omega
          · obtain rfl : k = l.length := by omega
            go_wp2
            go_ret
            exact ⟨rfl, K3.out.trans K4.out⟩
      | succ q =>
        rw [show (((q + 1 : Nat) : Int)) - 1 = (q : Int) by omega]
        have hqs : q < s.size := by omega
        have S := show rowM s (s.size - (q + 1) + 1) = if bt s (s.size - 1 - (s.size - (q + 1))) = 88 then (if (rowM s (s.size - (q + 1))).2.2 = true then ((rowM s (s.size - (q + 1))).1 * 10, (rowM s (s.size - (q + 1))).2.1, true) else ((rowM s (s.size - (q + 1))).1, (rowM s (s.size - (q + 1))).2.1 * 10, false)) else ((rowM s (s.size - (q + 1))).1, (rowM s (s.size - (q + 1))).2.1, true) from rfl
        rw [show s.size - (q + 1) + 1 = s.size - q by omega, show s.size - 1 - (s.size - (q + 1)) = q by omega] at S
        have bd := RB.out (s.size - (q + 1))
        have pb := P10_le (s.size - (q + 1)) (by omega)
        have hbt := bt_at s q hqs
        obtain ⟨b, eb⟩ : ∃ b, bt s q = b := ⟨_, rfl⟩
        rw [eb] at S hbt
        obtain ⟨R, hR⟩ : ∃ R, rowM s (s.size - (q + 1)) = R := ⟨_, rfl⟩
        rw [hR] at bd S ⊢
        obtain ⟨m, n, d⟩ := R
        simp only at bd S ⊢
        obtain ⟨b1, b2, b3, b4⟩ := bd
        have b5 : m ≤ 10000 := by omega
        have b6 : n ≤ 10000 := by omega
        have z1 : (0 : Int) ≤ (q : Int) := by omega
        have z2 : (q : Int) < s.size := by omega
        clear hR eb b2 b4 pb
        by_cases hx : b = 88
        · have g : ((b : Int) != 88) = false := by simp; omega
          rw [if_pos hx] at S
          clear hx
          cases d
          · have S2 := Lib.hid (show rowM s (s.size - q) = (m, n * 10, false) from S)
            clear S
            go_wp2
            go_roundw
            case rel => exact ⟨q, by omega, rfl, by rw [S2.out], by rw [S2.out], by rw [S2.out], trivial⟩
            case measure => simp [intOf]
          · have S2 := Lib.hid (show rowM s (s.size - q) = (m * 10, n, true) from S)
            clear S
            go_wp2
            go_roundw
            case rel => exact ⟨q, by omega, rfl, by rw [S2.out], by rw [S2.out], by rw [S2.out], trivial⟩
            case measure => simp [intOf]
        · have g : ((b : Int) != 88) = true := by simp; omega
          rw [if_neg hx] at S
          have S2 := Lib.hid (show rowM s (s.size - q) = (m, n, true) from S)
          clear hx S
          go_wp2
          go_roundw
          case rel => exact ⟨q, by omega, rfl, by rw [S2.out], by rw [S2.out], by rw [S2.out], trivial⟩
          case measure => simp [intOf]
  · rw [h] at A1
    rw [show setM s = [] by unfold setM; rw [h]; rfl] at A2
    clear h
    go_enter Try.func7, Try.ntmps7
    go_wp2_with fail; refine (A0.out _).mono ?_; rintro e w1 ⟨rfl, k1⟩; have K1 := Lib.hid (id k1); clear k1
    go_wp2_with fail; refine (A1.out _).mono ?_; rintro e w2 ⟨rfl, k1⟩; have K2 := Lib.hid (K1.out.trans k1); clear k1
    go_wp2_with fail
    refine (A2.out _).mono ?_
    rintro e w3 ⟨v, rfl, own, k1⟩
    have K3 := Lib.hid (K2.out.trans k1)
    obtain ⟨_, h2⟩ := own
    rcases h2 with ⟨rfl, _⟩ | ⟨g, cap, cur, rfl, _⟩
    · go_wp2
      go_ret
      exact ⟨rfl, K3.out⟩
    · go_wp2
      go_ret
      exact ⟨rfl, K3.out⟩
end Go.Proofs.Ytgjdaaopebkokaa
