/-
  Walk of AllenMasks: the loop over the list.
-/
import Derived.Test.YteneoimkfddhpaaDoorAllenAw
import Derived.Test.YteneoimkfddhpaaDoorAllenRC
import Derived.Test.YteneoimkfddhpaaDoorAllenRD
import Derived.Test.YteneoimkfddhpaaDoorAllenMM
import Derived.Test.YteneoimkfddhpaaDoorMask
namespace Go.Proofs.YteneoimkfddhpaaDoor
open Go.RowKit
set_option linter.unusedVariables false
theorem mem_take_next (L : List Int) (j : Nat) (h : j < L.length) (r : Int) : r ∈ L.take (j + 1) ↔ r ∈ L.take j ∨ L.getD j 0 = r := by
  rw [List.take_succ_eq_append_getElem h, List.mem_append, List.mem_singleton, show L.getD j 0 = L[j] by simp [List.getD, h]]
  exact or_congr_right eq_comm
theorem mem_getD (L : List Int) (j : Nat) (h : j < L.length) : L.getD j 0 ∈ L := by
  simp [List.getD, h]
set_option maxHeartbeats 8000000 in
set_option maxRecDepth 100000 in
theorem allenMasks_walk (m k0 : Int) (w : World) (hT : TabNM w) (ml : -9223372036854775808 ≤ m) (mh : m ≤ 9223372036854775807) (kl : -9223372036854775808 ≤ k0) (kh : k0 ≤ 9223372036854775807) :
    Calls Tryd.prog 7 #[.int .i64 m, .int .i64 k0] w fun e w' => e = .returned (.bool true) ∧ Below w.heap.size w w' := by
  have HT := Lib.hid hT
  have C1 := Lib.hid (fun w => list_any m w)
  have C2 := Lib.hid (fun w => flip_any m w)
  have C3 := Lib.hid (fun w => flip_any (flip m) w)
  have C4 := Lib.hid (fun w => list_any (flip m) w)
  rw [flip_flip] at C3
  rw [li_flip_len m] at C4
  have FB := flip_bd m
  obtain ⟨f1, f2⟩ := FB
  have a16 := and16 k0
  have a13 := and13 m
  have t13 : Int.tmod (k0 % 65536) 13 = k0 % 65536 % 13 := Int.tmod_eq_emod_of_nonneg (by omega)
  obtain ⟨R, eR⟩ : ∃ R : Nat, k0 % 65536 % 13 = (R : Int) := ⟨(k0 % 65536 % 13).toNat, by omega⟩
  have hR : R ≤ 12 := by omega
  rw [eR] at t13
  have L13 := li_len m 13
  have MB := Lib.hid (fun x (h : x ∈ li m 13) => li_bd m 13 x h)
  have NX := Lib.hid (li_next m)
  have MEM := Lib.hid (li_mem m 13 R)
  clear hT
  generalize li m 13 = L at *
  go_enter Tryd.func7, Tryd.ntmps7
  go_wp2_with fail; refine (awake18 _ HT.out).mono ?_; rintro e w1 ⟨rfl, k1⟩; have K1 := Lib.hid k1; clear k1
  go_wp2_with fail; refine (C1.out _).mono ?_; rintro e w2 ⟨v, rfl, hown, k2⟩; have K2 := Lib.hid (K1.out.trans k2); have I1 := intsAt_own hown; clear k2 hown
  rcases I1 with ⟨rfl, hL⟩ | ⟨g, cap, rfl, hg, hc⟩
  · have BE : Hid (false = bitB m R) := by
      unfold Hid
      have q := MEM.out
      rw [hL] at q
      rcases Bool.eq_false_or_eq_true (bitB m R) with h | h
      · exact absurd (q.2 ⟨by omega, h⟩) (by simp)
      · exact h.symm
    have h00 : L.length = 0 := by rw [hL]; rfl
    rw [h00] at C4
    clear hL h00 MB NX MEM L13
    go_wp2
    go_loopw [8, 9] (fun b i wr => b = .bool false ∧ i = .int .i64 0 ∧ wr = w2) (fun _ _ _ => 0)
    case atStart => exact ⟨rfl, rfl, rfl⟩
    case round =>
      obtain ⟨rfl, rfl, rfl⟩ := hrel
      have KL := Lib.hid (Kp.refl wr)
      have : R = 0 ∨ R = 1 ∨ R = 2 ∨ R = 3 ∨ R = 4 ∨ R = 5 ∨ R = 6 ∨ R = 7 ∨ R = 8 ∨ R = 9 ∨ R = 10 ∨ R = 11 ∨ R = 12 := by omega
      clear hR t13 eR
      rcases this with rfl | rfl | rfl | rfl | rfl | rfl | rfl | rfl | rfl | rfl | rfl | rfl | rfl
      · have e1 := sh_0 m
        have e2 := sh_12 (flip m)
        rw [show bitB (flip m) 12 = bitB m 0 by rw [bitB_bI, bitB_bI, bI_flip_12]] at e2
        rw [← BE.out] at e1 e2
        generalize flip m = F at *
        go_wp2_with fail; refine ((C2.out _)).mono ?_; rintro e w' ⟨rfl, rfl⟩
        go_wp2_with fail; refine ((C3.out _)).mono ?_; rintro e w' ⟨rfl, rfl⟩
        go_wp2_with fail; refine (C4.out _).mono ?_; rintro e w3 ⟨v2, rfl, hown2, k3⟩; have K4 := Lib.hid (KL.out.trans k3); clear k3
        rcases hown2.2 with ⟨rfl, h0⟩ | ⟨g2, cap2, cur2, rfl, _⟩
        · clear hown2
          go_wp2
          go_ret
          exact ⟨rfl, K2.out.trans K4.out⟩
        · clear hown2
          go_wp2
          go_ret
          exact ⟨rfl, K2.out.trans K4.out⟩
      · have e1 := sh_1 m
        have e2 := sh_11 (flip m)
        rw [show bitB (flip m) 11 = bitB m 1 by rw [bitB_bI, bitB_bI, bI_flip_11]] at e2
        rw [← BE.out] at e1 e2
        generalize flip m = F at *
        go_wp2_with fail; refine ((C2.out _)).mono ?_; rintro e w' ⟨rfl, rfl⟩
        go_wp2_with fail; refine ((C3.out _)).mono ?_; rintro e w' ⟨rfl, rfl⟩
        go_wp2_with fail; refine (C4.out _).mono ?_; rintro e w3 ⟨v2, rfl, hown2, k3⟩; have K4 := Lib.hid (KL.out.trans k3); clear k3
        rcases hown2.2 with ⟨rfl, h0⟩ | ⟨g2, cap2, cur2, rfl, _⟩
        · clear hown2
          go_wp2
          go_ret
          exact ⟨rfl, K2.out.trans K4.out⟩
        · clear hown2
          go_wp2
          go_ret
          exact ⟨rfl, K2.out.trans K4.out⟩
      · have e1 := sh_2 m
        have e2 := sh_10 (flip m)
        rw [show bitB (flip m) 10 = bitB m 2 by rw [bitB_bI, bitB_bI, bI_flip_10]] at e2
        rw [← BE.out] at e1 e2
        generalize flip m = F at *
        go_wp2_with fail; refine ((C2.out _)).mono ?_; rintro e w' ⟨rfl, rfl⟩
        go_wp2_with fail; refine ((C3.out _)).mono ?_; rintro e w' ⟨rfl, rfl⟩
        go_wp2_with fail; refine (C4.out _).mono ?_; rintro e w3 ⟨v2, rfl, hown2, k3⟩; have K4 := Lib.hid (KL.out.trans k3); clear k3
        rcases hown2.2 with ⟨rfl, h0⟩ | ⟨g2, cap2, cur2, rfl, _⟩
        · clear hown2
          go_wp2
          go_ret
          exact ⟨rfl, K2.out.trans K4.out⟩
        · clear hown2
          go_wp2
          go_ret
          exact ⟨rfl, K2.out.trans K4.out⟩
      · have e1 := sh_3 m
        have e2 := sh_9 (flip m)
        rw [show bitB (flip m) 9 = bitB m 3 by rw [bitB_bI, bitB_bI, bI_flip_9]] at e2
        rw [← BE.out] at e1 e2
        generalize flip m = F at *
        go_wp2_with fail; refine ((C2.out _)).mono ?_; rintro e w' ⟨rfl, rfl⟩
        go_wp2_with fail; refine ((C3.out _)).mono ?_; rintro e w' ⟨rfl, rfl⟩
        go_wp2_with fail; refine (C4.out _).mono ?_; rintro e w3 ⟨v2, rfl, hown2, k3⟩; have K4 := Lib.hid (KL.out.trans k3); clear k3
        rcases hown2.2 with ⟨rfl, h0⟩ | ⟨g2, cap2, cur2, rfl, _⟩
        · clear hown2
          go_wp2
          go_ret
          exact ⟨rfl, K2.out.trans K4.out⟩
        · clear hown2
          go_wp2
          go_ret
          exact ⟨rfl, K2.out.trans K4.out⟩
      · have e1 := sh_4 m
        have e2 := sh_8 (flip m)
        rw [show bitB (flip m) 8 = bitB m 4 by rw [bitB_bI, bitB_bI, bI_flip_8]] at e2
        rw [← BE.out] at e1 e2
        generalize flip m = F at *
        go_wp2_with fail; refine ((C2.out _)).mono ?_; rintro e w' ⟨rfl, rfl⟩
        go_wp2_with fail; refine ((C3.out _)).mono ?_; rintro e w' ⟨rfl, rfl⟩
        go_wp2_with fail; refine (C4.out _).mono ?_; rintro e w3 ⟨v2, rfl, hown2, k3⟩; have K4 := Lib.hid (KL.out.trans k3); clear k3
        rcases hown2.2 with ⟨rfl, h0⟩ | ⟨g2, cap2, cur2, rfl, _⟩
        · clear hown2
          go_wp2
          go_ret
          exact ⟨rfl, K2.out.trans K4.out⟩
        · clear hown2
          go_wp2
          go_ret
          exact ⟨rfl, K2.out.trans K4.out⟩
      · have e1 := sh_5 m
        have e2 := sh_7 (flip m)
        rw [show bitB (flip m) 7 = bitB m 5 by rw [bitB_bI, bitB_bI, bI_flip_7]] at e2
        rw [← BE.out] at e1 e2
        generalize flip m = F at *
        go_wp2_with fail; refine ((C2.out _)).mono ?_; rintro e w' ⟨rfl, rfl⟩
        go_wp2_with fail; refine ((C3.out _)).mono ?_; rintro e w' ⟨rfl, rfl⟩
        go_wp2_with fail; refine (C4.out _).mono ?_; rintro e w3 ⟨v2, rfl, hown2, k3⟩; have K4 := Lib.hid (KL.out.trans k3); clear k3
        rcases hown2.2 with ⟨rfl, h0⟩ | ⟨g2, cap2, cur2, rfl, _⟩
        · clear hown2
          go_wp2
          go_ret
          exact ⟨rfl, K2.out.trans K4.out⟩
        · clear hown2
          go_wp2
          go_ret
          exact ⟨rfl, K2.out.trans K4.out⟩
      · have e1 := sh_6 m
        have e2 := sh_6 (flip m)
        rw [show bitB (flip m) 6 = bitB m 6 by rw [bitB_bI, bitB_bI, bI_flip_6]] at e2
        rw [← BE.out] at e1 e2
        generalize flip m = F at *
        go_wp2_with fail; refine ((C2.out _)).mono ?_; rintro e w' ⟨rfl, rfl⟩
        go_wp2_with fail; refine ((C3.out _)).mono ?_; rintro e w' ⟨rfl, rfl⟩
        go_wp2_with fail; refine (C4.out _).mono ?_; rintro e w3 ⟨v2, rfl, hown2, k3⟩; have K4 := Lib.hid (KL.out.trans k3); clear k3
        rcases hown2.2 with ⟨rfl, h0⟩ | ⟨g2, cap2, cur2, rfl, _⟩
        · clear hown2
          go_wp2
          go_ret
          exact ⟨rfl, K2.out.trans K4.out⟩
        · clear hown2
          go_wp2
          go_ret
          exact ⟨rfl, K2.out.trans K4.out⟩
      · have e1 := sh_7 m
        have e2 := sh_5 (flip m)
        rw [show bitB (flip m) 5 = bitB m 7 by rw [bitB_bI, bitB_bI, bI_flip_5]] at e2
        rw [← BE.out] at e1 e2
        generalize flip m = F at *
        go_wp2_with fail; refine ((C2.out _)).mono ?_; rintro e w' ⟨rfl, rfl⟩
        go_wp2_with fail; refine ((C3.out _)).mono ?_; rintro e w' ⟨rfl, rfl⟩
        go_wp2_with fail; refine (C4.out _).mono ?_; rintro e w3 ⟨v2, rfl, hown2, k3⟩; have K4 := Lib.hid (KL.out.trans k3); clear k3
        rcases hown2.2 with ⟨rfl, h0⟩ | ⟨g2, cap2, cur2, rfl, _⟩
        · clear hown2
          go_wp2
          go_ret
          exact ⟨rfl, K2.out.trans K4.out⟩
        · clear hown2
          go_wp2
          go_ret
          exact ⟨rfl, K2.out.trans K4.out⟩
      · have e1 := sh_8 m
        have e2 := sh_4 (flip m)
        rw [show bitB (flip m) 4 = bitB m 8 by rw [bitB_bI, bitB_bI, bI_flip_4]] at e2
        rw [← BE.out] at e1 e2
        generalize flip m = F at *
        go_wp2_with fail; refine ((C2.out _)).mono ?_; rintro e w' ⟨rfl, rfl⟩
        go_wp2_with fail; refine ((C3.out _)).mono ?_; rintro e w' ⟨rfl, rfl⟩
        go_wp2_with fail; refine (C4.out _).mono ?_; rintro e w3 ⟨v2, rfl, hown2, k3⟩; have K4 := Lib.hid (KL.out.trans k3); clear k3
        rcases hown2.2 with ⟨rfl, h0⟩ | ⟨g2, cap2, cur2, rfl, _⟩
        · clear hown2
          go_wp2
          go_ret
          exact ⟨rfl, K2.out.trans K4.out⟩
        · clear hown2
          go_wp2
          go_ret
          exact ⟨rfl, K2.out.trans K4.out⟩
      · have e1 := sh_9 m
        have e2 := sh_3 (flip m)
        rw [show bitB (flip m) 3 = bitB m 9 by rw [bitB_bI, bitB_bI, bI_flip_3]] at e2
        rw [← BE.out] at e1 e2
        generalize flip m = F at *
        go_wp2_with fail; refine ((C2.out _)).mono ?_; rintro e w' ⟨rfl, rfl⟩
        go_wp2_with fail; refine ((C3.out _)).mono ?_; rintro e w' ⟨rfl, rfl⟩
        go_wp2_with fail; refine (C4.out _).mono ?_; rintro e w3 ⟨v2, rfl, hown2, k3⟩; have K4 := Lib.hid (KL.out.trans k3); clear k3
        rcases hown2.2 with ⟨rfl, h0⟩ | ⟨g2, cap2, cur2, rfl, _⟩
        · clear hown2
          go_wp2
          go_ret
          exact ⟨rfl, K2.out.trans K4.out⟩
        · clear hown2
          go_wp2
          go_ret
          exact ⟨rfl, K2.out.trans K4.out⟩
      · have e1 := sh_10 m
        have e2 := sh_2 (flip m)
        rw [show bitB (flip m) 2 = bitB m 10 by rw [bitB_bI, bitB_bI, bI_flip_2]] at e2
        rw [← BE.out] at e1 e2
        generalize flip m = F at *
        go_wp2_with fail; refine ((C2.out _)).mono ?_; rintro e w' ⟨rfl, rfl⟩
        go_wp2_with fail; refine ((C3.out _)).mono ?_; rintro e w' ⟨rfl, rfl⟩
        go_wp2_with fail; refine (C4.out _).mono ?_; rintro e w3 ⟨v2, rfl, hown2, k3⟩; have K4 := Lib.hid (KL.out.trans k3); clear k3
        rcases hown2.2 with ⟨rfl, h0⟩ | ⟨g2, cap2, cur2, rfl, _⟩
        · clear hown2
          go_wp2
          go_ret
          exact ⟨rfl, K2.out.trans K4.out⟩
        · clear hown2
          go_wp2
          go_ret
          exact ⟨rfl, K2.out.trans K4.out⟩
      · have e1 := sh_11 m
        have e2 := sh_1 (flip m)
        rw [show bitB (flip m) 1 = bitB m 11 by rw [bitB_bI, bitB_bI, bI_flip_1]] at e2
        rw [← BE.out] at e1 e2
        generalize flip m = F at *
        go_wp2_with fail; refine ((C2.out _)).mono ?_; rintro e w' ⟨rfl, rfl⟩
        go_wp2_with fail; refine ((C3.out _)).mono ?_; rintro e w' ⟨rfl, rfl⟩
        go_wp2_with fail; refine (C4.out _).mono ?_; rintro e w3 ⟨v2, rfl, hown2, k3⟩; have K4 := Lib.hid (KL.out.trans k3); clear k3
        rcases hown2.2 with ⟨rfl, h0⟩ | ⟨g2, cap2, cur2, rfl, _⟩
        · clear hown2
          go_wp2
          go_ret
          exact ⟨rfl, K2.out.trans K4.out⟩
        · clear hown2
          go_wp2
          go_ret
          exact ⟨rfl, K2.out.trans K4.out⟩
      · have e1 := sh_12 m
        have e2 := sh_0 (flip m)
        rw [show bitB (flip m) 0 = bitB m 12 by rw [bitB_bI, bitB_bI, bI_flip_0]] at e2
        rw [← BE.out] at e1 e2
        generalize flip m = F at *
        go_wp2_with fail; refine ((C2.out _)).mono ?_; rintro e w' ⟨rfl, rfl⟩
        go_wp2_with fail; refine ((C3.out _)).mono ?_; rintro e w' ⟨rfl, rfl⟩
        go_wp2_with fail; refine (C4.out _).mono ?_; rintro e w3 ⟨v2, rfl, hown2, k3⟩; have K4 := Lib.hid (KL.out.trans k3); clear k3
        rcases hown2.2 with ⟨rfl, h0⟩ | ⟨g2, cap2, cur2, rfl, _⟩
        · clear hown2
          go_wp2
          go_ret
          exact ⟨rfl, K2.out.trans K4.out⟩
        · clear hown2
          go_wp2
          go_ret
          exact ⟨rfl, K2.out.trans K4.out⟩
  · have HC := Lib.hid hc
    clear hc
    go_wp2
    go_loopw [8, 9] (fun b i wr => ∃ (j : Nat) (B : Bool), j ≤ L.length ∧ b = .bool B ∧ Hid (B = decide ((R : Int) ∈ L.take j)) ∧ i = .int .i64 j ∧ Kp w2 wr) (fun _ i _ => L.length - (intOf i).toNat)
    case atStart => exact ⟨0, false, Nat.zero_le _, rfl, by unfold Hid; simp, rfl, Kp.refl _⟩
    case round =>
      obtain ⟨j, B, hj, rfl, BB, rfl, k3⟩ := hrel
      have KL := Lib.hid k3
      clear k3
      by_cases hlt : j < L.length
      · have c1 : wr.cell? ⟨g, j, none⟩ = some (.int .i64 (L.getD j 0)) := by rw [KL.out.cell (p := ⟨g, j, none⟩) hg]; exact HC.out j hlt
        have xb := MB.out _ (mem_getD L j hlt)
        obtain ⟨xb1, xb2⟩ := xb
        have NB := Lib.hid (mem_take_next L j hlt (R : Int))
        have NJ := Lib.hid (fun (h : 0 < j) => NX.out (j - 1) (by omega))
        obtain ⟨x, ex⟩ : ∃ x, x = L.getD j 0 := ⟨_, rfl⟩
        rw [← ex] at c1 xb1 xb2
        have EX := Lib.hid ex
        clear ex
        have p1 : decide (x < 0) = false := by simp; omega
        have p2 : decide (12 < x) = false := by simp; omega
        clear C2 C3 C4 f1 f2 a13 a16 t13 eR
        have B2 : Hid ((B || x == (R : Int)) = decide ((R : Int) ∈ L.take (j + 1))) := by
          unfold Hid
          rw [BB.out, Bool.eq_iff_iff]
          simp only [Bool.or_eq_true, decide_eq_true_eq, beq_iff_eq]
          rw [NB.out, EX.out]
        by_cases j0 : j = 0
        · have g1 : decide (0 < j) = false := by simp; omega
          have J0 := Lib.hid j0
          clear j0
          rcases Bool.eq_false_or_eq_true B with hB | hB
          · subst hB
            have B3 : Hid (true = decide ((R : Int) ∈ L.take (j + 1))) := by have := B2.out; rw [Bool.true_or] at this; exact this
            clear B2
            go_wp2
            go_quiet (fail)
            go_wp2
            go_roundw
            case rel => exact ⟨j + 1, true, by omega, rfl, B3.out, by go_num, KL.out.trans (Kp.drewN _ _)⟩
            case measure => simp [intOf]; omega
          · subst hB
            rcases Bool.eq_false_or_eq_true (x == (R : Int)) with hE | hE
            · have B3 : Hid (true = decide ((R : Int) ∈ L.take (j + 1))) := by have := B2.out; rw [hE] at this; exact this
              clear B2
              go_wp2
              go_quiet (fail)
              go_wp2
              go_roundw
              case rel => exact ⟨j + 1, true, by omega, rfl, B3.out, by go_num, KL.out.trans (Kp.drewN _ _)⟩
              case measure => simp [intOf]; omega
            · have B3 : Hid (false = decide ((R : Int) ∈ L.take (j + 1))) := by have := B2.out; rw [hE] at this; exact this
              clear B2
              go_wp2
              go_quiet (fail)
              go_wp2
              go_roundw
              case rel => exact ⟨j + 1, false, by omega, rfl, B3.out, by go_num, KL.out.trans (Kp.drewN _ _)⟩
              case measure => simp [intOf]; omega
        · have g1 : decide (0 < j) = true := by simp; omega
          have g0 : 0 < j := by omega
          have d3 : wr.cell? ⟨g, j - 1, none⟩ = some (.int .i64 (L.getD (j - 1) 0)) := by rw [KL.out.cell (p := ⟨g, j - 1, none⟩) hg]; exact HC.out (j - 1) (by omega)
          have lt := NJ.out g0
          rw [show j - 1 + 1 = j by omega, ← EX.out] at lt
          generalize L.getD (j - 1) 0 = y at *
          have g2 : decide (x ≤ y) = false := by simp; omega
          have wr0 : IntKind.i64.wrap ((j : Int) - 1) = ((j - 1 : Nat) : Int) := by rw [IntKind.wrap_i64]; omega
          have hlt3 : ((j - 1 : Nat) : Int) < L.length := by omega
          rcases Bool.eq_false_or_eq_true B with hB | hB
          · subst hB
            have B3 : Hid (true = decide ((R : Int) ∈ L.take (j + 1))) := by have := B2.out; rw [Bool.true_or] at this; exact this
            clear B2
            go_wp2
            go_quiet (fail)
            go_wp2
            go_roundw
            case rel => exact ⟨j + 1, true, by omega, rfl, B3.out, by go_num, KL.out.trans (Kp.drewN _ _)⟩
            case measure => simp [intOf]; omega
          · subst hB
            rcases Bool.eq_false_or_eq_true (x == (R : Int)) with hE | hE
            · have B3 : Hid (true = decide ((R : Int) ∈ L.take (j + 1))) := by have := B2.out; rw [hE] at this; exact this
              clear B2
              go_wp2
              go_quiet (fail)
              go_wp2
              go_roundw
              case rel => exact ⟨j + 1, true, by omega, rfl, B3.out, by go_num, KL.out.trans (Kp.drewN _ _)⟩
              case measure => simp [intOf]; omega
            · have B3 : Hid (false = decide ((R : Int) ∈ L.take (j + 1))) := by have := B2.out; rw [hE] at this; exact this
              clear B2
              go_wp2
              go_quiet (fail)
              go_wp2
              go_roundw
              case rel => exact ⟨j + 1, false, by omega, rfl, B3.out, by go_num, KL.out.trans (Kp.drewN _ _)⟩
              case measure => simp [intOf]; omega
      · obtain rfl : j = L.length := by omega
        have BE : Hid (B = bitB m R) := by
          unfold Hid
          rw [BB.out, List.take_length, Bool.eq_iff_iff, decide_eq_true_eq, MEM.out]
          constructor
          · exact fun h => h.2
          · exact fun h => ⟨by omega, h⟩
        clear BB MB NX MEM
        have : R = 0 ∨ R = 1 ∨ R = 2 ∨ R = 3 ∨ R = 4 ∨ R = 5 ∨ R = 6 ∨ R = 7 ∨ R = 8 ∨ R = 9 ∨ R = 10 ∨ R = 11 ∨ R = 12 := by omega
        clear hR t13 eR
        rcases this with rfl | rfl | rfl | rfl | rfl | rfl | rfl | rfl | rfl | rfl | rfl | rfl | rfl
        · have e1 := sh_0 m
          have e2 := sh_12 (flip m)
          rw [show bitB (flip m) 12 = bitB m 0 by rw [bitB_bI, bitB_bI, bI_flip_12]] at e2
          rw [← BE.out] at e1 e2
          generalize flip m = F at *
          go_wp2_with fail; refine ((C2.out _)).mono ?_; rintro e w' ⟨rfl, rfl⟩
          go_wp2_with fail; refine ((C3.out _)).mono ?_; rintro e w' ⟨rfl, rfl⟩
          go_wp2_with fail; refine (C4.out _).mono ?_; rintro e w3 ⟨v2, rfl, hown2, k3⟩; have K4 := Lib.hid (KL.out.trans k3); clear k3
          rcases hown2.2 with ⟨rfl, h0⟩ | ⟨g2, cap2, cur2, rfl, _⟩
          · clear hown2
            go_wp2
            go_ret
            exact ⟨rfl, K2.out.trans K4.out⟩
          · clear hown2
            go_wp2
            go_ret
            exact ⟨rfl, K2.out.trans K4.out⟩
        · have e1 := sh_1 m
          have e2 := sh_11 (flip m)
          rw [show bitB (flip m) 11 = bitB m 1 by rw [bitB_bI, bitB_bI, bI_flip_11]] at e2
          rw [← BE.out] at e1 e2
          generalize flip m = F at *
          go_wp2_with fail; refine ((C2.out _)).mono ?_; rintro e w' ⟨rfl, rfl⟩
          go_wp2_with fail; refine ((C3.out _)).mono ?_; rintro e w' ⟨rfl, rfl⟩
          go_wp2_with fail; refine (C4.out _).mono ?_; rintro e w3 ⟨v2, rfl, hown2, k3⟩; have K4 := Lib.hid (KL.out.trans k3); clear k3
          rcases hown2.2 with ⟨rfl, h0⟩ | ⟨g2, cap2, cur2, rfl, _⟩
          · clear hown2
            go_wp2
            go_ret
            exact ⟨rfl, K2.out.trans K4.out⟩
          · clear hown2
            go_wp2
            go_ret
            exact ⟨rfl, K2.out.trans K4.out⟩
        · have e1 := sh_2 m
          have e2 := sh_10 (flip m)
          rw [show bitB (flip m) 10 = bitB m 2 by rw [bitB_bI, bitB_bI, bI_flip_10]] at e2
          rw [← BE.out] at e1 e2
          generalize flip m = F at *
          go_wp2_with fail; refine ((C2.out _)).mono ?_; rintro e w' ⟨rfl, rfl⟩
          go_wp2_with fail; refine ((C3.out _)).mono ?_; rintro e w' ⟨rfl, rfl⟩
          go_wp2_with fail; refine (C4.out _).mono ?_; rintro e w3 ⟨v2, rfl, hown2, k3⟩; have K4 := Lib.hid (KL.out.trans k3); clear k3
          rcases hown2.2 with ⟨rfl, h0⟩ | ⟨g2, cap2, cur2, rfl, _⟩
          · clear hown2
            go_wp2
            go_ret
            exact ⟨rfl, K2.out.trans K4.out⟩
          · clear hown2
            go_wp2
            go_ret
            exact ⟨rfl, K2.out.trans K4.out⟩
        · have e1 := sh_3 m
          have e2 := sh_9 (flip m)
          rw [show bitB (flip m) 9 = bitB m 3 by rw [bitB_bI, bitB_bI, bI_flip_9]] at e2
          rw [← BE.out] at e1 e2
          generalize flip m = F at *
          go_wp2_with fail; refine ((C2.out _)).mono ?_; rintro e w' ⟨rfl, rfl⟩
          go_wp2_with fail; refine ((C3.out _)).mono ?_; rintro e w' ⟨rfl, rfl⟩
          go_wp2_with fail; refine (C4.out _).mono ?_; rintro e w3 ⟨v2, rfl, hown2, k3⟩; have K4 := Lib.hid (KL.out.trans k3); clear k3
          rcases hown2.2 with ⟨rfl, h0⟩ | ⟨g2, cap2, cur2, rfl, _⟩
          · clear hown2
            go_wp2
            go_ret
            exact ⟨rfl, K2.out.trans K4.out⟩
          · clear hown2
            go_wp2
            go_ret
            exact ⟨rfl, K2.out.trans K4.out⟩
        · have e1 := sh_4 m
          have e2 := sh_8 (flip m)
          rw [show bitB (flip m) 8 = bitB m 4 by rw [bitB_bI, bitB_bI, bI_flip_8]] at e2
          rw [← BE.out] at e1 e2
          generalize flip m = F at *
          go_wp2_with fail; refine ((C2.out _)).mono ?_; rintro e w' ⟨rfl, rfl⟩
          go_wp2_with fail; refine ((C3.out _)).mono ?_; rintro e w' ⟨rfl, rfl⟩
          go_wp2_with fail; refine (C4.out _).mono ?_; rintro e w3 ⟨v2, rfl, hown2, k3⟩; have K4 := Lib.hid (KL.out.trans k3); clear k3
          rcases hown2.2 with ⟨rfl, h0⟩ | ⟨g2, cap2, cur2, rfl, _⟩
          · clear hown2
            go_wp2
            go_ret
            exact ⟨rfl, K2.out.trans K4.out⟩
          · clear hown2
            go_wp2
            go_ret
            exact ⟨rfl, K2.out.trans K4.out⟩
        · have e1 := sh_5 m
          have e2 := sh_7 (flip m)
          rw [show bitB (flip m) 7 = bitB m 5 by rw [bitB_bI, bitB_bI, bI_flip_7]] at e2
          rw [← BE.out] at e1 e2
          generalize flip m = F at *
          go_wp2_with fail; refine ((C2.out _)).mono ?_; rintro e w' ⟨rfl, rfl⟩
          go_wp2_with fail; refine ((C3.out _)).mono ?_; rintro e w' ⟨rfl, rfl⟩
          go_wp2_with fail; refine (C4.out _).mono ?_; rintro e w3 ⟨v2, rfl, hown2, k3⟩; have K4 := Lib.hid (KL.out.trans k3); clear k3
          rcases hown2.2 with ⟨rfl, h0⟩ | ⟨g2, cap2, cur2, rfl, _⟩
          · clear hown2
            go_wp2
            go_ret
            exact ⟨rfl, K2.out.trans K4.out⟩
          · clear hown2
            go_wp2
            go_ret
            exact ⟨rfl, K2.out.trans K4.out⟩
        · have e1 := sh_6 m
          have e2 := sh_6 (flip m)
          rw [show bitB (flip m) 6 = bitB m 6 by rw [bitB_bI, bitB_bI, bI_flip_6]] at e2
          rw [← BE.out] at e1 e2
          generalize flip m = F at *
          go_wp2_with fail; refine ((C2.out _)).mono ?_; rintro e w' ⟨rfl, rfl⟩
          go_wp2_with fail; refine ((C3.out _)).mono ?_; rintro e w' ⟨rfl, rfl⟩
          go_wp2_with fail; refine (C4.out _).mono ?_; rintro e w3 ⟨v2, rfl, hown2, k3⟩; have K4 := Lib.hid (KL.out.trans k3); clear k3
          rcases hown2.2 with ⟨rfl, h0⟩ | ⟨g2, cap2, cur2, rfl, _⟩
          · clear hown2
            go_wp2
            go_ret
            exact ⟨rfl, K2.out.trans K4.out⟩
          · clear hown2
            go_wp2
            go_ret
            exact ⟨rfl, K2.out.trans K4.out⟩
        · have e1 := sh_7 m
          have e2 := sh_5 (flip m)
          rw [show bitB (flip m) 5 = bitB m 7 by rw [bitB_bI, bitB_bI, bI_flip_5]] at e2
          rw [← BE.out] at e1 e2
          generalize flip m = F at *
          go_wp2_with fail; refine ((C2.out _)).mono ?_; rintro e w' ⟨rfl, rfl⟩
          go_wp2_with fail; refine ((C3.out _)).mono ?_; rintro e w' ⟨rfl, rfl⟩
          go_wp2_with fail; refine (C4.out _).mono ?_; rintro e w3 ⟨v2, rfl, hown2, k3⟩; have K4 := Lib.hid (KL.out.trans k3); clear k3
          rcases hown2.2 with ⟨rfl, h0⟩ | ⟨g2, cap2, cur2, rfl, _⟩
          · clear hown2
            go_wp2
            go_ret
            exact ⟨rfl, K2.out.trans K4.out⟩
          · clear hown2
            go_wp2
            go_ret
            exact ⟨rfl, K2.out.trans K4.out⟩
        · have e1 := sh_8 m
          have e2 := sh_4 (flip m)
          rw [show bitB (flip m) 4 = bitB m 8 by rw [bitB_bI, bitB_bI, bI_flip_4]] at e2
          rw [← BE.out] at e1 e2
          generalize flip m = F at *
          go_wp2_with fail; refine ((C2.out _)).mono ?_; rintro e w' ⟨rfl, rfl⟩
          go_wp2_with fail; refine ((C3.out _)).mono ?_; rintro e w' ⟨rfl, rfl⟩
          go_wp2_with fail; refine (C4.out _).mono ?_; rintro e w3 ⟨v2, rfl, hown2, k3⟩; have K4 := Lib.hid (KL.out.trans k3); clear k3
          rcases hown2.2 with ⟨rfl, h0⟩ | ⟨g2, cap2, cur2, rfl, _⟩
          · clear hown2
            go_wp2
            go_ret
            exact ⟨rfl, K2.out.trans K4.out⟩
          · clear hown2
            go_wp2
            go_ret
            exact ⟨rfl, K2.out.trans K4.out⟩
        · have e1 := sh_9 m
          have e2 := sh_3 (flip m)
          rw [show bitB (flip m) 3 = bitB m 9 by rw [bitB_bI, bitB_bI, bI_flip_3]] at e2
          rw [← BE.out] at e1 e2
          generalize flip m = F at *
          go_wp2_with fail; refine ((C2.out _)).mono ?_; rintro e w' ⟨rfl, rfl⟩
          go_wp2_with fail; refine ((C3.out _)).mono ?_; rintro e w' ⟨rfl, rfl⟩
          go_wp2_with fail; refine (C4.out _).mono ?_; rintro e w3 ⟨v2, rfl, hown2, k3⟩; have K4 := Lib.hid (KL.out.trans k3); clear k3
          rcases hown2.2 with ⟨rfl, h0⟩ | ⟨g2, cap2, cur2, rfl, _⟩
          · clear hown2
            go_wp2
            go_ret
            exact ⟨rfl, K2.out.trans K4.out⟩
          · clear hown2
            go_wp2
            go_ret
            exact ⟨rfl, K2.out.trans K4.out⟩
        · have e1 := sh_10 m
          have e2 := sh_2 (flip m)
          rw [show bitB (flip m) 2 = bitB m 10 by rw [bitB_bI, bitB_bI, bI_flip_2]] at e2
          rw [← BE.out] at e1 e2
          generalize flip m = F at *
          go_wp2_with fail; refine ((C2.out _)).mono ?_; rintro e w' ⟨rfl, rfl⟩
          go_wp2_with fail; refine ((C3.out _)).mono ?_; rintro e w' ⟨rfl, rfl⟩
          go_wp2_with fail; refine (C4.out _).mono ?_; rintro e w3 ⟨v2, rfl, hown2, k3⟩; have K4 := Lib.hid (KL.out.trans k3); clear k3
          rcases hown2.2 with ⟨rfl, h0⟩ | ⟨g2, cap2, cur2, rfl, _⟩
          · clear hown2
            go_wp2
            go_ret
            exact ⟨rfl, K2.out.trans K4.out⟩
          · clear hown2
            go_wp2
            go_ret
            exact ⟨rfl, K2.out.trans K4.out⟩
        · have e1 := sh_11 m
          have e2 := sh_1 (flip m)
          rw [show bitB (flip m) 1 = bitB m 11 by rw [bitB_bI, bitB_bI, bI_flip_1]] at e2
          rw [← BE.out] at e1 e2
          generalize flip m = F at *
          go_wp2_with fail; refine ((C2.out _)).mono ?_; rintro e w' ⟨rfl, rfl⟩
          go_wp2_with fail; refine ((C3.out _)).mono ?_; rintro e w' ⟨rfl, rfl⟩
          go_wp2_with fail; refine (C4.out _).mono ?_; rintro e w3 ⟨v2, rfl, hown2, k3⟩; have K4 := Lib.hid (KL.out.trans k3); clear k3
          rcases hown2.2 with ⟨rfl, h0⟩ | ⟨g2, cap2, cur2, rfl, _⟩
          · clear hown2
            go_wp2
            go_ret
            exact ⟨rfl, K2.out.trans K4.out⟩
          · clear hown2
            go_wp2
            go_ret
            exact ⟨rfl, K2.out.trans K4.out⟩
        · have e1 := sh_12 m
          have e2 := sh_0 (flip m)
          rw [show bitB (flip m) 0 = bitB m 12 by rw [bitB_bI, bitB_bI, bI_flip_0]] at e2
          rw [← BE.out] at e1 e2
          generalize flip m = F at *
          go_wp2_with fail; refine ((C2.out _)).mono ?_; rintro e w' ⟨rfl, rfl⟩
          go_wp2_with fail; refine ((C3.out _)).mono ?_; rintro e w' ⟨rfl, rfl⟩
          go_wp2_with fail; refine (C4.out _).mono ?_; rintro e w3 ⟨v2, rfl, hown2, k3⟩; have K4 := Lib.hid (KL.out.trans k3); clear k3
          rcases hown2.2 with ⟨rfl, h0⟩ | ⟨g2, cap2, cur2, rfl, _⟩
          · clear hown2
            go_wp2
            go_ret
            exact ⟨rfl, K2.out.trans K4.out⟩
          · clear hown2
            go_wp2
            go_ret
            exact ⟨rfl, K2.out.trans K4.out⟩
end Go.Proofs.YteneoimkfddhpaaDoor
