/-
  Walks of the statements of layer 19: what holds is among what follows.
-/
import Derived.Test.YteneoimkfddhpaaDoorComposeW1
namespace Go.Proofs.YteneoimkfddhpaaDoor
open Go.RowKit
set_option linter.unusedVariables false
theorem box1 {w w1 : World} {a b : Value} {t : TypeId} (k : Kp (w.alloc (.cells #[a, b] t)) w1) :
    w1.cell? ⟨w.heap.size, 0, none⟩ = some a ∧ w1.cell? ⟨w.heap.size, 1, none⟩ = some b := by
  refine ⟨?_, ?_⟩
  · rw [k.cell (by simp)]; simp
  · rw [k.cell (by simp)]; simp
theorem box3 {w w1 : World} {a b c d e f : Value} {t t' t'' : TypeId} (k : Kp (((w.alloc (.cells #[a, b] t)).alloc (.cells #[c, d] t')).alloc (.cells #[e, f] t'')) w1) :
    (w1.cell? ⟨w.heap.size, 0, none⟩ = some a ∧ w1.cell? ⟨w.heap.size, 1, none⟩ = some b) ∧ (w1.cell? ⟨w.heap.size + 1, 0, none⟩ = some c ∧ w1.cell? ⟨w.heap.size + 1, 1, none⟩ = some d) ∧ w1.cell? ⟨w.heap.size + 1 + 1, 0, none⟩ = some e ∧ w1.cell? ⟨w.heap.size + 1 + 1, 1, none⟩ = some f := by
  have b1 := box1 (((Kp.alloc (w.alloc (.cells #[a, b] t)) (.cells #[c, d] t')).trans (Kp.alloc _ (.cells #[e, f] t''))).trans k)
  have b2 := box1 ((Kp.alloc ((w.alloc (.cells #[a, b] t)).alloc (.cells #[c, d] t')) (.cells #[e, f] t'')).trans k)
  have b3 := box1 k
  simp only [World.size_alloc] at b2 b3
  exact ⟨b1, b2, b3⟩
theorem and1 (n : Int) : bits .and .i64 n 1 = n % 2 := by
  rw [and_aux n _ 1 (by decide), IntKind.wrap_i64]; omega
theorem bit_at {m x : Nat} (h : m.testBit x = true) : bits .and .i64 ((m : Int) / 2 ^ x) 1 = 1 := by
  rw [and1]
  rw [Nat.testBit_eq_decide_div_mod_eq, decide_eq_true_eq] at h
  have : ((m / 2 ^ x % 2 : Nat) : Int) = (m : Int) / 2 ^ x % 2 := by push_cast; rfl
  omega
theorem pos_of_bit {m x : Nat} (h : m.testBit x = true) : 0 < m := by
  rcases Nat.eq_zero_or_pos m with rfl | g
  · simp at h
  · exact g
set_option maxHeartbeats 4000000 in
set_option maxRecDepth 100000 in
theorem composeSound_walk (a b c d e f : Int) (w : World) (hT : TabNM w) (al : -9223372036854775808 ≤ a) (ah : a ≤ 9223372036854775807) (bl : -9223372036854775808 ≤ b) (bh : b ≤ 9223372036854775807) (cl : -9223372036854775808 ≤ c) (ch : c ≤ 9223372036854775807) (dl : -9223372036854775808 ≤ d) (dh : d ≤ 9223372036854775807) (el : -9223372036854775808 ≤ e) (eh : e ≤ 9223372036854775807) (fl : -9223372036854775808 ≤ f) (fh : f ≤ 9223372036854775807) :
    Calls Tryd.prog 9 #[.agg #[.int .i64 a, .int .i64 b], .agg #[.int .i64 c, .int .i64 d], .agg #[.int .i64 e, .int .i64 f]] w fun e w' => e = .returned (.bool true) ∧ Below w.heap.size w w' := by
  have HT := Lib.hid (fun w' (k : Kp w w') => hT.kp k)
  have A0 := Lib.hid (fun w h => awake19 w h)
  have A1 := Lib.hid (fun w => of_any a b c d w al ah bl bh cl ch dl dh)
  have A2 := Lib.hid (fun w => of_any c d e f w cl ch dl dh el eh fl fh)
  have A3 := Lib.hid (fun w => of_any a b e f w al ah bl bh el eh fl fh)
  clear hT
  by_cases v : ivB a b c d = true ∧ ivB c d e f = true
  · obtain ⟨v1, v2⟩ := v
    have h1 : a ≤ b := by unfold ivB at v1; simp at v1; omega
    have h2 : c ≤ d := by unfold ivB at v1; simp at v1; omega
    have h3 : e ≤ f := by unfold ivB at v2; simp at v2; omega
    have v3 : ivB a b e f = true := by unfold ivB; simp; omega
    have A4 := Lib.hid (fun w h => ccomp_any (rel a b c d) (rel c d e f) w h)
    have s := comp_sound a b c d e f h1 h2 h3
    have l := compN_lt (rel a b c d) (rel c d e f)
    have bd := rel_bd a b e f
    obtain ⟨x, hx⟩ := Int.eq_ofNat_of_zero_le bd.1
    rw [show relV a b c d = rel a b c d by unfold relV; rw [v1]; rfl, v1] at A1
    rw [show relV c d e f = rel c d e f by unfold relV; rw [v2]; rfl, v2] at A2
    rw [show relV a b e f = rel a b e f by unfold relV; rw [v3]; rfl, v3] at A3
    rw [hx] at A3 bd s
    rw [Int.toNat_natCast] at s
    generalize compN (rel a b c d) (rel c d e f) = m at *
    generalize rel a b c d = r1 at *
    generalize rel c d e f = r2 at *
    have hx12 : x ≤ 12 := by omega
    have t1 : (bits .and .i64 ((m : Int) / 2 ^ x) 1 == 1) = true := by rw [bit_at s]; rfl
    have t2 : decide (0 < m) = true := by simpa using pos_of_bit s
    have t3 : decide ((m : Int) < 8192) = true := by simp; omega
    clear v1 v2 v3 h1 h2 h3 bd hx s l
    go_enter Tryd.func9, Tryd.ntmps9
    go_wp2_with fail; refine (A0.out _ (HT.out _ (((Kp.alloc _ _).trans (Kp.alloc _ _)).trans (Kp.alloc _ _)))).mono ?_; rintro e w1 ⟨rfl, k1⟩; obtain ⟨⟨x1, x2⟩, ⟨x3, x4⟩, x5, x6⟩ := box3 k1; have K1 := Lib.hid k1; clear k1
    go_wp2_with fail; refine (A1.out _).mono ?_; rintro e w2 ⟨rfl, k2⟩; clear x1 x2 x3 x4 x5 x6; obtain ⟨⟨x1, x2⟩, ⟨x3, x4⟩, x5, x6⟩ := box3 (K1.out.trans k2); have K2 := Lib.hid (K1.out.trans k2); clear k2
    go_wp2_with fail; refine (A2.out _).mono ?_; rintro e w3 ⟨rfl, k2⟩; clear x1 x2 x3 x4 x5 x6; obtain ⟨⟨x1, x2⟩, ⟨x3, x4⟩, x5, x6⟩ := box3 (K2.out.trans k2); have K3 := Lib.hid (K2.out.trans k2); clear k2
    go_wp2_with fail; refine (A3.out _).mono ?_; rintro e w4 ⟨rfl, k2⟩; clear x1 x2 x3 x4 x5 x6; have K4 := Lib.hid (K3.out.trans k2); clear k2
    go_wp2_with fail; refine (A4.out _ (HT.out _ ((((Kp.alloc _ _).trans (Kp.alloc _ _)).trans (Kp.alloc _ _)).trans K4.out))).mono ?_; rintro e w5 ⟨rfl, k2⟩; have K5 := Lib.hid (K4.out.trans k2); clear k2
    go_wp2
    go_ret
    exact ⟨rfl, (((Kp.alloc _ _).trans (Kp.alloc _ _)).trans (Kp.alloc _ _)).trans K5.out⟩
  · generalize relV a b c d = r1 at *
    generalize relV c d e f = r2 at *
    generalize relV a b e f = r3 at *
    rcases Bool.eq_false_or_eq_true (ivB a b c d) with v1 | v1
    · have v2 : ivB c d e f = false := by
        rcases Bool.eq_false_or_eq_true (ivB c d e f) with g | g
        · exact absurd ⟨v1, g⟩ v
        · exact g
      rw [v1] at A1
      rw [v2] at A2
      generalize ivB a b e f = v3 at *
      clear v v1 v2
      go_enter Tryd.func9, Tryd.ntmps9
      go_wp2_with fail; refine (A0.out _ (HT.out _ (((Kp.alloc _ _).trans (Kp.alloc _ _)).trans (Kp.alloc _ _)))).mono ?_; rintro e w1 ⟨rfl, k1⟩; obtain ⟨⟨x1, x2⟩, ⟨x3, x4⟩, x5, x6⟩ := box3 k1; have K1 := Lib.hid k1; clear k1; go_wp2_with fail; refine (A1.out _).mono ?_; rintro e w2 ⟨rfl, k2⟩; clear x1 x2 x3 x4 x5 x6; obtain ⟨⟨x1, x2⟩, ⟨x3, x4⟩, x5, x6⟩ := box3 (K1.out.trans k2); have K2 := Lib.hid (K1.out.trans k2); clear k2; go_wp2_with fail; refine (A2.out _).mono ?_; rintro e w3 ⟨rfl, k2⟩; clear x1 x2 x3 x4 x5 x6; obtain ⟨⟨x1, x2⟩, ⟨x3, x4⟩, x5, x6⟩ := box3 (K2.out.trans k2); have K3 := Lib.hid (K2.out.trans k2); clear k2; go_wp2_with fail; refine (A3.out _).mono ?_; rintro e w4 ⟨rfl, k2⟩; clear x1 x2 x3 x4 x5 x6; have K4 := Lib.hid (K3.out.trans k2); clear k2; go_wp2; go_ret; exact ⟨rfl, (((Kp.alloc _ _).trans (Kp.alloc _ _)).trans (Kp.alloc _ _)).trans K4.out⟩
    · rw [v1] at A1
      generalize ivB c d e f = v2 at *
      generalize ivB a b e f = v3 at *
      clear v v1
      go_enter Tryd.func9, Tryd.ntmps9
      go_wp2_with fail; refine (A0.out _ (HT.out _ (((Kp.alloc _ _).trans (Kp.alloc _ _)).trans (Kp.alloc _ _)))).mono ?_; rintro e w1 ⟨rfl, k1⟩; obtain ⟨⟨x1, x2⟩, ⟨x3, x4⟩, x5, x6⟩ := box3 k1; have K1 := Lib.hid k1; clear k1; go_wp2_with fail; refine (A1.out _).mono ?_; rintro e w2 ⟨rfl, k2⟩; clear x1 x2 x3 x4 x5 x6; obtain ⟨⟨x1, x2⟩, ⟨x3, x4⟩, x5, x6⟩ := box3 (K1.out.trans k2); have K2 := Lib.hid (K1.out.trans k2); clear k2; go_wp2_with fail; refine (A2.out _).mono ?_; rintro e w3 ⟨rfl, k2⟩; clear x1 x2 x3 x4 x5 x6; obtain ⟨⟨x1, x2⟩, ⟨x3, x4⟩, x5, x6⟩ := box3 (K2.out.trans k2); have K3 := Lib.hid (K2.out.trans k2); clear k2; go_wp2_with fail; refine (A3.out _).mono ?_; rintro e w4 ⟨rfl, k2⟩; clear x1 x2 x3 x4 x5 x6; have K4 := Lib.hid (K3.out.trans k2); clear k2; go_wp2; go_ret; exact ⟨rfl, (((Kp.alloc _ _).trans (Kp.alloc _ _)).trans (Kp.alloc _ _)).trans K4.out⟩
end Go.Proofs.YteneoimkfddhpaaDoor
