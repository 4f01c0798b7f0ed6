/-
  Contracts of the document's answer for layer 18: bits.
-/
import Derived.Test.YteneoimkfddhpaaDoorAllenRA
import Derived.Test.YteneoimkfddhpaaDoorAllenRB
namespace Go.Proofs.YteneoimkfddhpaaDoor
open Go.RowKit
set_option linter.unusedVariables false
theorem sh_0 (n : Int) : (bits .and .i64 n 1 == 1) = bitB n 0 := by
  rw [pow_aux n _ 0 (by decide), IntKind.wrap_i64, bitB, Bool.eq_iff_iff]
  simp only [beq_iff_eq, decide_eq_true_eq]
  omega
theorem sh_1 (n : Int) : (bits .and .i64 (n / 2) 1 == 1) = bitB n 1 := by
  rw [pow_aux (n / 2) _ 0 (by decide), IntKind.wrap_i64, bitB, Bool.eq_iff_iff]
  simp only [beq_iff_eq, decide_eq_true_eq]
  omega
theorem sh_2 (n : Int) : (bits .and .i64 (n / 4) 1 == 1) = bitB n 2 := by
  rw [pow_aux (n / 4) _ 0 (by decide), IntKind.wrap_i64, bitB, Bool.eq_iff_iff]
  simp only [beq_iff_eq, decide_eq_true_eq]
  omega
theorem sh_3 (n : Int) : (bits .and .i64 (n / 8) 1 == 1) = bitB n 3 := by
  rw [pow_aux (n / 8) _ 0 (by decide), IntKind.wrap_i64, bitB, Bool.eq_iff_iff]
  simp only [beq_iff_eq, decide_eq_true_eq]
  omega
theorem sh_4 (n : Int) : (bits .and .i64 (n / 16) 1 == 1) = bitB n 4 := by
  rw [pow_aux (n / 16) _ 0 (by decide), IntKind.wrap_i64, bitB, Bool.eq_iff_iff]
  simp only [beq_iff_eq, decide_eq_true_eq]
  omega
theorem sh_5 (n : Int) : (bits .and .i64 (n / 32) 1 == 1) = bitB n 5 := by
  rw [pow_aux (n / 32) _ 0 (by decide), IntKind.wrap_i64, bitB, Bool.eq_iff_iff]
  simp only [beq_iff_eq, decide_eq_true_eq]
  omega
theorem sh_6 (n : Int) : (bits .and .i64 (n / 64) 1 == 1) = bitB n 6 := by
  rw [pow_aux (n / 64) _ 0 (by decide), IntKind.wrap_i64, bitB, Bool.eq_iff_iff]
  simp only [beq_iff_eq, decide_eq_true_eq]
  omega
theorem sh_7 (n : Int) : (bits .and .i64 (n / 128) 1 == 1) = bitB n 7 := by
  rw [pow_aux (n / 128) _ 0 (by decide), IntKind.wrap_i64, bitB, Bool.eq_iff_iff]
  simp only [beq_iff_eq, decide_eq_true_eq]
  omega
theorem sh_8 (n : Int) : (bits .and .i64 (n / 256) 1 == 1) = bitB n 8 := by
  rw [pow_aux (n / 256) _ 0 (by decide), IntKind.wrap_i64, bitB, Bool.eq_iff_iff]
  simp only [beq_iff_eq, decide_eq_true_eq]
  omega
theorem sh_9 (n : Int) : (bits .and .i64 (n / 512) 1 == 1) = bitB n 9 := by
  rw [pow_aux (n / 512) _ 0 (by decide), IntKind.wrap_i64, bitB, Bool.eq_iff_iff]
  simp only [beq_iff_eq, decide_eq_true_eq]
  omega
theorem sh_10 (n : Int) : (bits .and .i64 (n / 1024) 1 == 1) = bitB n 10 := by
  rw [pow_aux (n / 1024) _ 0 (by decide), IntKind.wrap_i64, bitB, Bool.eq_iff_iff]
  simp only [beq_iff_eq, decide_eq_true_eq]
  omega
theorem sh_11 (n : Int) : (bits .and .i64 (n / 2048) 1 == 1) = bitB n 11 := by
  rw [pow_aux (n / 2048) _ 0 (by decide), IntKind.wrap_i64, bitB, Bool.eq_iff_iff]
  simp only [beq_iff_eq, decide_eq_true_eq]
  omega
theorem sh_12 (n : Int) : (bits .and .i64 (n / 4096) 1 == 1) = bitB n 12 := by
  rw [pow_aux (n / 4096) _ 0 (by decide), IntKind.wrap_i64, bitB, Bool.eq_iff_iff]
  simp only [beq_iff_eq, decide_eq_true_eq]
  omega
set_option maxHeartbeats 2000000 in
set_option maxRecDepth 100000 in
theorem refHas_any (m : Int) (r : Nat) (w : World) (h : r ≤ 12) :
    Calls Tryd.prog 40 #[.int .i64 m, .int .i64 r] w fun e w' => e = .returned (.bool (bitB m r)) ∧ w = w' := by
  have : r = 0 ∨ r = 1 ∨ r = 2 ∨ r = 3 ∨ r = 4 ∨ r = 5 ∨ r = 6 ∨ r = 7 ∨ r = 8 ∨ r = 9 ∨ r = 10 ∨ r = 11 ∨ r = 12 := by omega
  clear h
  rcases this with rfl | rfl | rfl | rfl | rfl | rfl | rfl | rfl | rfl | rfl | rfl | rfl | rfl
  · have e := sh_0 m
    generalize bitB m 0 = v at *
    go_enter Tryd.func40, Tryd.ntmps40
    go_wp2
    go_ret
    exact ⟨rfl, rfl⟩
  · have e := sh_1 m
    generalize bitB m 1 = v at *
    go_enter Tryd.func40, Tryd.ntmps40
    go_wp2
    go_ret
    exact ⟨rfl, rfl⟩
  · have e := sh_2 m
    generalize bitB m 2 = v at *
    go_enter Tryd.func40, Tryd.ntmps40
    go_wp2
    go_ret
    exact ⟨rfl, rfl⟩
  · have e := sh_3 m
    generalize bitB m 3 = v at *
    go_enter Tryd.func40, Tryd.ntmps40
    go_wp2
    go_ret
    exact ⟨rfl, rfl⟩
  · have e := sh_4 m
    generalize bitB m 4 = v at *
    go_enter Tryd.func40, Tryd.ntmps40
    go_wp2
    go_ret
    exact ⟨rfl, rfl⟩
  · have e := sh_5 m
    generalize bitB m 5 = v at *
    go_enter Tryd.func40, Tryd.ntmps40
    go_wp2
    go_ret
    exact ⟨rfl, rfl⟩
  · have e := sh_6 m
    generalize bitB m 6 = v at *
    go_enter Tryd.func40, Tryd.ntmps40
    go_wp2
    go_ret
    exact ⟨rfl, rfl⟩
  · have e := sh_7 m
    generalize bitB m 7 = v at *
    go_enter Tryd.func40, Tryd.ntmps40
    go_wp2
    go_ret
    exact ⟨rfl, rfl⟩
  · have e := sh_8 m
    generalize bitB m 8 = v at *
    go_enter Tryd.func40, Tryd.ntmps40
    go_wp2
    go_ret
    exact ⟨rfl, rfl⟩
  · have e := sh_9 m
    generalize bitB m 9 = v at *
    go_enter Tryd.func40, Tryd.ntmps40
    go_wp2
    go_ret
    exact ⟨rfl, rfl⟩
  · have e := sh_10 m
    generalize bitB m 10 = v at *
    go_enter Tryd.func40, Tryd.ntmps40
    go_wp2
    go_ret
    exact ⟨rfl, rfl⟩
  · have e := sh_11 m
    generalize bitB m 11 = v at *
    go_enter Tryd.func40, Tryd.ntmps40
    go_wp2
    go_ret
    exact ⟨rfl, rfl⟩
  · have e := sh_12 m
    generalize bitB m 12 = v at *
    go_enter Tryd.func40, Tryd.ntmps40
    go_wp2
    go_ret
    exact ⟨rfl, rfl⟩
set_option maxHeartbeats 4000000 in
theorem refFlip_any (m : Int) (w : World) :
    Calls Tryd.prog 24 #[.int .i64 m] w fun e w' => e = .returned (.int .i64 (flip m)) ∧ w = w' := by
  go_enter Tryd.func24, Tryd.ntmps24
  go_wp2
  go_loop [3, 4] (fun f i => ∃ k : Nat, k ≤ 13 ∧ i = .int .i64 k ∧ f = .int .i64 (fl m k)) (fun _ i => 13 - (intOf i).toNat)
  case atStart => exact ⟨0, by omega, rfl, rfl⟩
  case round =>
    obtain ⟨k, hk, rfl, rfl⟩ := hrel
    by_cases hlt : k < 13
    · have C := Lib.hid (fun w => refHas_any m k w (by omega))
      have S : Hid (fl m (k + 1) = fl m k + if bitB m k then 2 ^ (12 - k) else 0) := rfl
      obtain ⟨Q, e, b⟩ := fl_form m k (by omega)
      rcases Bool.eq_false_or_eq_true (bitB m k) with h | h
      · rw [h] at C S
        clear h
        have : k = 0 ∨ k = 1 ∨ k = 2 ∨ k = 3 ∨ k = 4 ∨ k = 5 ∨ k = 6 ∨ k = 7 ∨ k = 8 ∨ k = 9 ∨ k = 10 ∨ k = 11 ∨ k = 12 := by omega
        generalize fl m k = x at *
        clear hk hlt
        rcases this with rfl | rfl | rfl | rfl | rfl | rfl | rfl | rfl | rfl | rfl | rfl | rfl | rfl
        · have j := bits_join .i64 14 (by decide) wraps_i64 13 x 4096 (by omega) (by omega) (by omega) (by omega) (by decide) (by decide)
          clear e b
          go_wp2_with fail; refine ((C.out _)).mono ?_; rintro e w' ⟨rfl, rfl⟩
          go_wp2
          go_round
          case rel => exact ⟨1, by omega, rfl, by rw [S.out]; rfl⟩
          case measure => simp [intOf]
        · have j := bits_join .i64 14 (by decide) wraps_i64 12 x 2048 (by omega) (by omega) (by omega) (by omega) (by decide) (by decide)
          clear e b
          go_wp2_with fail; refine ((C.out _)).mono ?_; rintro e w' ⟨rfl, rfl⟩
          go_wp2
          go_round
          case rel => exact ⟨2, by omega, rfl, by rw [S.out]; rfl⟩
          case measure => simp [intOf]
        · have j := bits_join .i64 14 (by decide) wraps_i64 11 x 1024 (by omega) (by omega) (by omega) (by omega) (by decide) (by decide)
          clear e b
          go_wp2_with fail; refine ((C.out _)).mono ?_; rintro e w' ⟨rfl, rfl⟩
          go_wp2
          go_round
          case rel => exact ⟨3, by omega, rfl, by rw [S.out]; rfl⟩
          case measure => simp [intOf]
        · have j := bits_join .i64 14 (by decide) wraps_i64 10 x 512 (by omega) (by omega) (by omega) (by omega) (by decide) (by decide)
          clear e b
          go_wp2_with fail; refine ((C.out _)).mono ?_; rintro e w' ⟨rfl, rfl⟩
          go_wp2
          go_round
          case rel => exact ⟨4, by omega, rfl, by rw [S.out]; rfl⟩
          case measure => simp [intOf]
        · have j := bits_join .i64 14 (by decide) wraps_i64 9 x 256 (by omega) (by omega) (by omega) (by omega) (by decide) (by decide)
          clear e b
          go_wp2_with fail; refine ((C.out _)).mono ?_; rintro e w' ⟨rfl, rfl⟩
          go_wp2
          go_round
          case rel => exact ⟨5, by omega, rfl, by rw [S.out]; rfl⟩
          case measure => simp [intOf]
        · have j := bits_join .i64 14 (by decide) wraps_i64 8 x 128 (by omega) (by omega) (by omega) (by omega) (by decide) (by decide)
          clear e b
          go_wp2_with fail; refine ((C.out _)).mono ?_; rintro e w' ⟨rfl, rfl⟩
          go_wp2
          go_round
          case rel => exact ⟨6, by omega, rfl, by rw [S.out]; rfl⟩
          case measure => simp [intOf]
        · have j := bits_join .i64 14 (by decide) wraps_i64 7 x 64 (by omega) (by omega) (by omega) (by omega) (by decide) (by decide)
          clear e b
          go_wp2_with fail; refine ((C.out _)).mono ?_; rintro e w' ⟨rfl, rfl⟩
          go_wp2
          go_round
          case rel => exact ⟨7, by omega, rfl, by rw [S.out]; rfl⟩
          case measure => simp [intOf]
        · have j := bits_join .i64 14 (by decide) wraps_i64 6 x 32 (by omega) (by omega) (by omega) (by omega) (by decide) (by decide)
          clear e b
          go_wp2_with fail; refine ((C.out _)).mono ?_; rintro e w' ⟨rfl, rfl⟩
          go_wp2
          go_round
          case rel => exact ⟨8, by omega, rfl, by rw [S.out]; rfl⟩
          case measure => simp [intOf]
        · have j := bits_join .i64 14 (by decide) wraps_i64 5 x 16 (by omega) (by omega) (by omega) (by omega) (by decide) (by decide)
          clear e b
          go_wp2_with fail; refine ((C.out _)).mono ?_; rintro e w' ⟨rfl, rfl⟩
          go_wp2
          go_round
          case rel => exact ⟨9, by omega, rfl, by rw [S.out]; rfl⟩
          case measure => simp [intOf]
        · have j := bits_join .i64 14 (by decide) wraps_i64 4 x 8 (by omega) (by omega) (by omega) (by omega) (by decide) (by decide)
          clear e b
          go_wp2_with fail; refine ((C.out _)).mono ?_; rintro e w' ⟨rfl, rfl⟩
          go_wp2
          go_round
          case rel => exact ⟨10, by omega, rfl, by rw [S.out]; rfl⟩
          case measure => simp [intOf]
        · have j := bits_join .i64 14 (by decide) wraps_i64 3 x 4 (by omega) (by omega) (by omega) (by omega) (by decide) (by decide)
          clear e b
          go_wp2_with fail; refine ((C.out _)).mono ?_; rintro e w' ⟨rfl, rfl⟩
          go_wp2
          go_round
          case rel => exact ⟨11, by omega, rfl, by rw [S.out]; rfl⟩
          case measure => simp [intOf]
        · have j := bits_join .i64 14 (by decide) wraps_i64 2 x 2 (by omega) (by omega) (by omega) (by omega) (by decide) (by decide)
          clear e b
          go_wp2_with fail; refine ((C.out _)).mono ?_; rintro e w' ⟨rfl, rfl⟩
          go_wp2
          go_round
          case rel => exact ⟨12, by omega, rfl, by rw [S.out]; rfl⟩
          case measure => simp [intOf]
        · have j := bits_join .i64 14 (by decide) wraps_i64 1 x 1 (by omega) (by omega) (by omega) (by omega) (by decide) (by decide)
          clear e b
          go_wp2_with fail; refine ((C.out _)).mono ?_; rintro e w' ⟨rfl, rfl⟩
          go_wp2
          go_round
          case rel => exact ⟨13, by omega, rfl, by rw [S.out]; rfl⟩
          case measure => simp [intOf]
      · rw [h] at C S
        have S2 : Hid (fl m (k + 1) = fl m k) := by unfold Hid; rw [S.out]; simp
        clear h e b S
        go_wp2_with fail; refine ((C.out _)).mono ?_; rintro e w' ⟨rfl, rfl⟩
        go_wp2
        go_round
        case rel => exact ⟨k + 1, by omega, by go_num, by rw [S2.out]⟩
        case measure => simp [intOf]; omega
    · obtain rfl : k = 13 := by omega
      go_wp2
      go_ret
      exact ⟨rfl, rfl⟩
set_option maxHeartbeats 2000000 in
theorem refList_any (m : Int) (w : World) :
    Calls Tryd.prog 27 #[.int .i64 m] w fun e w' => ∃ v : Value, e = .returned v ∧ w'.ownsRow w.heap.size 3 1 v (li m 13).length (cellsI (li m 13)) ∧ Kp w w' := by
  obtain ⟨i0, hi, hz0, hz1, hz2⟩ := info_parts infoI
  go_enter Tryd.func27, Tryd.ntmps27
  go_wp2
  go_loopw [3, 4] (fun v i wr => ∃ k : Nat, k ≤ 13 ∧ i = .int .i64 k ∧ wr.ownsRow w.heap.size 3 1 v (li m k).length (cellsI (li m k)) ∧ Kp w wr) (fun _ i _ => 13 - (intOf i).toNat)
  case atStart => exact ⟨0, by omega, rfl, World.ownsRow_nil _ _ _ _, Kp.refl _⟩
  case round =>
    obtain ⟨k, hk, rfl, hown, k1⟩ := hrel
    have K1 := Lib.hid k1
    have hsz := k1.size
    clear k1
    by_cases hlt : k < 13
    · have C := Lib.hid (fun w => refHas_any m k w (by omega))
      have al := li_len m k
      rcases Bool.eq_false_or_eq_true (bitB m k) with h | h
      · have S := Lib.hid (li_yes m k h)
        rw [h] at C
        clear h
        go_wp2_with fail; refine ((C.out _)).mono ?_; rintro e w' ⟨rfl, rfl⟩
        go_wp2_with (at_builtin; refine wpList_append_own _ rfl (.tmp 12) (.tmp 14) 32 rfl w.heap.size 3 i0 (.int .i64 0) 1 8 Tryd.underlying32 hi hz0 hz1 hz2 rfl (by decide) _ _ _ rfl (hown.alloc _) ⟨wr.heap.size, 0, none⟩ 1 1 [.int .i64 k] rfl rfl (cell_one_new _ _ _) (by intro u hu; simp at hu; subst hu; rfl) (by unfold maxLen; omega) (by omega) (by simp; omega) ?_; intro v1 w1 hown1 hgrow1 hnil1)
        go_roundw
        case rel => exact ⟨k + 1, by omega, by go_num, by rw [S.out, cellsI, List.map_append, List.length_append]; exact hown1, kp_grown1 K1.out hgrow1 (fun j hj => (hown.lt j hj).1)⟩
        case measure => simp [intOf]; omega
      · have S := Lib.hid (li_no m k h)
        rw [h] at C
        clear h
        go_wp2_with fail; refine ((C.out _)).mono ?_; rintro e w' ⟨rfl, rfl⟩
        go_wp2
        go_roundw
        case rel => exact ⟨k + 1, by omega, by go_num, by rw [S.out]; exact hown, K1.out⟩
        case measure => simp [intOf]; omega
    · obtain rfl : k = 13 := by omega
      go_wp2
      go_ret
      exact ⟨_, rfl, hown, K1.out⟩
end Go.Proofs.YteneoimkfddhpaaDoor
