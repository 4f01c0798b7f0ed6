/-
  UnitOf: the walk.
-/
import Derived.Test.YtfopcacoacedcaaDoorUnitAw
namespace Go.Proofs.YtfopcacoacedcaaDoor
open Go.RowKit
set_option linter.unusedVariables false
set_option maxHeartbeats 1000000 in
set_option maxRecDepth 100000 in
theorem unitOf_walk (kind k i : Int) (w : World) (hT : Tabs w) (kind1 : -9223372036854775808 ≤ kind) (kind2 : kind ≤ 9223372036854775807) (k1 : -9223372036854775808 ≤ k) (k2 : k ≤ 9223372036854775807) (i1 : -9223372036854775808 ≤ i) (i2 : i ≤ 9223372036854775807) :
    Calls Tryd.prog 5 #[.int .i64 kind, .int .i64 k, .int .i64 i] w fun e w' => e = .returned (.bool true) ∧ Below w.heap.size w w' := by
  have HT := Lib.hid hT
  clear hT
  have mk := and30 k
  obtain ⟨k', hk⟩ : ∃ n, n = k % 1073741824 := ⟨_, rfl⟩
  rw [← hk] at mk
  have a3 : 0 ≤ k' := by omega
  have a4 : k' < 1073741824 := by omega
  clear hk
  have b1 : 0 ≤ k' % 3652425 := by omega
  have b2 : k' % 3652425 ≤ 3652424 := by omega
  obtain ⟨day, hd⟩ : ∃ y, k' % 3652425 = y := ⟨_, rfl⟩
  rw [hd] at b1 b2
  have c0 := countC kind
  have c1 := ofC kind day
  rcases Bool.eq_false_or_eq_true (okO kind day) with o | o
  · obtain ⟨n0, n1, n2, n3⟩ := unum_ok o
    rw [ofV_yes o, o] at c1
    have c2 := firstC kind (unum kind day)
    have c3 := lastC kind (unum kind day)
    rw [firV_yes n0 n1, okU_yes n0 n1] at c2
    rw [lasV_yes n0 n1, okU_yes n0 n1] at c3
    have z : (cnt kind == 0) = false := by simp; omega
    have c4 := firstC kind i
    have c5 := lastC kind i
    generalize unum kind day = n at *
    rcases Bool.eq_false_or_eq_true (okU kind i) with u | u
    · obtain ⟨i0, i1⟩ := (okU_iff kind i).1 u
      rw [firV_yes i0 i1, u] at c4
      rw [lasV_yes i0 i1, u] at c5
      have sp := span_bd i0 i1
      obtain ⟨f1, f2⟩ := okO_of i0 i1 (Int.le_refl _) sp.2.1
      obtain ⟨g1, g2⟩ := okO_of i0 i1 sp.2.1 (Int.le_refl _)
      have c6 := ofC kind (fst kind i)
      have c7 := ofC kind (lst kind i)
      rw [ofV_yes f1, f1, f2] at c6
      rw [ofV_yes g1, g1, g2] at c7
      clear f1 f2 g1 g2 u o
      generalize cnt kind = N, fst kind n = a, lst kind n = b, fst kind i = c, lst kind i = d at *
      have C0 := Lib.hid c0
      have C1 := Lib.hid c1
      have C2 := Lib.hid c2
      have C3 := Lib.hid c3
      have C4 := Lib.hid c4
      have C5 := Lib.hid c5
      have C6 := Lib.hid c6
      have C7 := Lib.hid c7
      clear c0 c1 c2 c3 c4 c5 c6 c7
      go_enter Tryd.func5, Tryd.ntmps5
      go_wp2_with fail; refine (awake3 _ HT.out).mono ?_; rintro e w0 ⟨rfl, k0⟩; have H0 := Lib.hid (HT.out.kp k0)
      go_wp2_with fail; refine (C1.out _ H0.out).mono ?_; rintro e w1 ⟨rfl, k1⟩; have H1 := Lib.hid (H0.out.kp k1)
      go_wp2_with fail; refine (C2.out _ H1.out).mono ?_; rintro e w2 ⟨rfl, k2⟩; have H2 := Lib.hid (H1.out.kp k2)
      go_wp2_with fail; refine (C3.out _ H2.out).mono ?_; rintro e w3 ⟨rfl, k3⟩; have H3 := Lib.hid (H2.out.kp k3)
      go_wp2_with fail; refine (C0.out _ H3.out).mono ?_; rintro e w4 ⟨rfl, k4⟩; have H4 := Lib.hid (H3.out.kp k4)
      go_wp2_with fail; refine (C4.out _ H4.out).mono ?_; rintro e w5 ⟨rfl, k5⟩; have H5 := Lib.hid (H4.out.kp k5)
      go_wp2_with fail; refine (C5.out _ H5.out).mono ?_; rintro e w6 ⟨rfl, k6⟩; have H6 := Lib.hid (H5.out.kp k6)
      go_wp2_with fail; refine (C6.out _ H6.out).mono ?_; rintro e w7 ⟨rfl, k7⟩; have H7 := Lib.hid (H6.out.kp k7)
      go_wp2_with fail; refine (C7.out _ H7.out).mono ?_; rintro e w8 ⟨rfl, k8⟩; have H8 := Lib.hid (H7.out.kp k8)
      go_wp2
      go_ret
      exact ⟨rfl, k0.trans (k1.trans (k2.trans (k3.trans (k4.trans (k5.trans (k6.trans (k7.trans (k8))))))))⟩
    · rw [firV_no u, u] at c4
      rw [lasV_no u, u] at c5
      clear u o
      generalize cnt kind = N, fst kind n = a, lst kind n = b at *
      have C0 := Lib.hid c0
      have C1 := Lib.hid c1
      have C2 := Lib.hid c2
      have C3 := Lib.hid c3
      have C4 := Lib.hid c4
      have C5 := Lib.hid c5
      clear c0 c1 c2 c3 c4 c5
      go_enter Tryd.func5, Tryd.ntmps5
      go_wp2_with fail; refine (awake3 _ HT.out).mono ?_; rintro e w0 ⟨rfl, k0⟩; have H0 := Lib.hid (HT.out.kp k0)
      go_wp2_with fail; refine (C1.out _ H0.out).mono ?_; rintro e w1 ⟨rfl, k1⟩; have H1 := Lib.hid (H0.out.kp k1)
      go_wp2_with fail; refine (C2.out _ H1.out).mono ?_; rintro e w2 ⟨rfl, k2⟩; have H2 := Lib.hid (H1.out.kp k2)
      go_wp2_with fail; refine (C3.out _ H2.out).mono ?_; rintro e w3 ⟨rfl, k3⟩; have H3 := Lib.hid (H2.out.kp k3)
      go_wp2_with fail; refine (C0.out _ H3.out).mono ?_; rintro e w4 ⟨rfl, k4⟩; have H4 := Lib.hid (H3.out.kp k4)
      go_wp2_with fail; refine (C4.out _ H4.out).mono ?_; rintro e w5 ⟨rfl, k5⟩; have H5 := Lib.hid (H4.out.kp k5)
      go_wp2_with fail; refine (C5.out _ H5.out).mono ?_; rintro e w6 ⟨rfl, k6⟩; have H6 := Lib.hid (H5.out.kp k6)
      go_wp2
      go_ret
      exact ⟨rfl, k0.trans (k1.trans (k2.trans (k3.trans (k4.trans (k5.trans (k6))))))⟩
  · have z := okO_no o b1 b2
    rw [ofV_no o, o] at c1
    clear o
    by_cases z1 : cnt kind = 0
    · rw [z1] at c0
      clear z z1
      have C0 := Lib.hid c0
      have C1 := Lib.hid c1
      clear c0 c1
      go_enter Tryd.func5, Tryd.ntmps5
      go_wp2_with fail; refine (awake3 _ HT.out).mono ?_; rintro e w0 ⟨rfl, k0⟩; have H0 := Lib.hid (HT.out.kp k0)
      go_wp2_with fail; refine (C1.out _ H0.out).mono ?_; rintro e w1 ⟨rfl, k1⟩; have H1 := Lib.hid (H0.out.kp k1)
      go_wp2_with fail; refine (C0.out _ H1.out).mono ?_; rintro e w2 ⟨rfl, k2⟩; have H2 := Lib.hid (H1.out.kp k2)
      go_wp2
      go_ret
      exact ⟨rfl, k0.trans (k1.trans (k2))⟩
    · obtain ⟨rfl, z2⟩ := z.resolve_left z1
      rw [show cnt 2 = 40000 by decide] at c0
      clear z z1
      have C0 := Lib.hid c0
      have C1 := Lib.hid c1
      clear c0 c1
      go_enter Tryd.func5, Tryd.ntmps5
      go_wp2_with fail; refine (awake3 _ HT.out).mono ?_; rintro e w0 ⟨rfl, k0⟩; have H0 := Lib.hid (HT.out.kp k0)
      go_wp2_with fail; refine (C1.out _ H0.out).mono ?_; rintro e w1 ⟨rfl, k1⟩; have H1 := Lib.hid (H0.out.kp k1)
      go_wp2_with fail; refine (C0.out _ H1.out).mono ?_; rintro e w2 ⟨rfl, k2⟩; have H2 := Lib.hid (H1.out.kp k2)
      go_wp2
      go_ret
      exact ⟨rfl, k0.trans (k1.trans (k2))⟩
end Go.Proofs.YtfopcacoacedcaaDoor
