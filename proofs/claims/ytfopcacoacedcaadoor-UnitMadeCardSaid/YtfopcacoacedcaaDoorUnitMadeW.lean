/-
  UnitMade: the walk.
-/
import Derived.Test.YtfopcacoacedcaaDoorUnitAw
namespace Go.Proofs.YtfopcacoacedcaaDoor
open Go.RowKit
set_option linter.unusedVariables false
set_option maxHeartbeats 1000000 in
set_option maxRecDepth 100000 in
theorem made_any (kind i part from_ to_ : Int) (w : World) (hT : Tabs w) (o1 : okU kind i = true) (o2 : okU part from_ = true) (o3 : okU part to_ = true) (e1 : firV kind i = firV part from_) (e2 : lasV kind i = lasV part to_) :
    Calls Tryd.prog 20 #[.int .i64 kind, .int .i64 i, .int .i64 part, .int .i64 from_, .int .i64 to_] w fun e w' => e = .returned (.bool true) ∧ Kp w w' := by
  have HT := Lib.hid hT
  clear hT
  have c1 := firstC kind i
  have c2 := lastC kind i
  have c3 := firstC part from_
  have c4 := lastC part to_
  rw [o1] at c1 c2
  rw [o2] at c3
  rw [o3] at c4
  rw [← e1] at c3
  rw [← e2] at c4
  clear o1 o2 o3 e1 e2
  generalize firV kind i = a, lasV kind i = b at *
  have C1 := Lib.hid c1
  have C2 := Lib.hid c2
  have C3 := Lib.hid c3
  have C4 := Lib.hid c4
  clear c1 c2 c3 c4
  go_enter Tryd.func20, Tryd.ntmps20
  go_wp2_with fail; refine (C1.out _ HT.out).mono ?_; rintro e w1 ⟨rfl, k1⟩; have H1 := Lib.hid (HT.out.kp k1)
  go_wp2_with fail; refine (C2.out _ H1.out).mono ?_; rintro e w2 ⟨rfl, k2⟩; have H2 := Lib.hid (H1.out.kp k2)
  go_wp2_with fail; refine (C3.out _ H2.out).mono ?_; rintro e w3 ⟨rfl, k3⟩; have H3 := Lib.hid (H2.out.kp k3)
  go_wp2_with fail; refine (C4.out _ H3.out).mono ?_; rintro e w4 ⟨rfl, k4⟩; have H4 := Lib.hid (H3.out.kp k4)
  go_wp2
  go_ret
  exact ⟨rfl, k1.trans (k2.trans (k3.trans k4))⟩
theorem of_months {k i p f t : Int} (h : 0 ≤ i) (h' : i < cnt k) (k0 : k ≠ 0) (p0 : p ≠ 0) (f0 : 0 ≤ f) (f1 : f < cnt p) (t0 : 0 ≤ t) (t1 : t < cnt p) (e1 : sm k i = sm p f) (e2 : em k i = em p t) :
    okU k i = true ∧ okU p f = true ∧ okU p t = true ∧ firV k i = firV p f ∧ lasV k i = lasV p t := by
  refine ⟨okU_yes h h', okU_yes f0 f1, okU_yes t0 t1, ?_, ?_⟩
  · rw [firV_yes h h', firV_yes f0 f1, (months h h' k0).2.2.2.1, (months f0 f1 p0).2.2.2.1, e1]
  · rw [lasV_yes h h', lasV_yes t0 t1, (months h h' k0).2.2.2.2, (months t0 t1 p0).2.2.2.2, e2]
set_option maxHeartbeats 1000000 in
set_option maxRecDepth 100000 in
theorem unitMade_walk (k : Int) (w : World) (hT : Tabs w) (k1 : -9223372036854775808 ≤ k) (k2 : k ≤ 9223372036854775807) :
    Calls Tryd.prog 8 #[.int .i64 k] w fun e w' => e = .returned (.bool true) ∧ Below w.heap.size w w' := by
  have HT := Lib.hid hT
  clear hT
  have mk := and24 k
  obtain ⟨k', hk⟩ : ∃ n, n = k % 16777216 := ⟨_, rfl⟩
  rw [← hk] at mk
  have a3 : 0 ≤ k' := by omega
  have a4 : k' < 16777216 := by omega
  clear hk
  have b1 : 0 ≤ k' % 40000 := by omega
  have b2 : k' % 40000 ≤ 39999 := by omega
  obtain ⟨i, hd⟩ : ∃ y, k' % 40000 = y := ⟨_, rfl⟩
  rw [hd] at b1 b2
  have n1 : cnt 1 = 120000 := by decide
  have n2 : cnt 2 = 40000 := by decide
  have n3 : cnt 3 = 10000 := by decide
  have n4 : cnt 4 = 1000 := by decide
  have n5 : cnt 5 = 100 := by decide
  obtain ⟨p1, p2, p3, p4, p5⟩ := of_months (k := 3) (i := i / 4) (p := 1) (f := i / 4 * 12) (t := i / 4 * 12 + 11) (by omega) (by omega) (by decide) (by decide) (by omega) (by omega) (by omega) (by omega) (by simp [sm]; omega) (by simp [em, sm]; omega)
  obtain ⟨q1, q2, q3, q4, q5⟩ := of_months (k := 4) (i := i / 40) (p := 3) (f := i / 40 * 10) (t := i / 40 * 10 + 9) (by omega) (by omega) (by decide) (by decide) (by omega) (by omega) (by omega) (by omega) (by simp [sm]; omega) (by simp [em, sm]; omega)
  obtain ⟨r1, r2, r3, r4, r5⟩ := of_months (k := 5) (i := i / 400) (p := 4) (f := i / 400 * 10) (t := i / 400 * 10 + 9) (by omega) (by omega) (by decide) (by decide) (by omega) (by omega) (by omega) (by omega) (by simp [sm]; omega) (by simp [em, sm]; omega)
  have C2 := Lib.hid (fun w h => made_any 3 (i / 4) 1 (i / 4 * 12) (i / 4 * 12 + 11) w h p1 p2 p3 p4 p5)
  have C3 := Lib.hid (fun w h => made_any 4 (i / 40) 3 (i / 40 * 10) (i / 40 * 10 + 9) w h q1 q2 q3 q4 q5)
  have C4 := Lib.hid (fun w h => made_any 5 (i / 400) 4 (i / 400 * 10) (i / 400 * 10 + 9) w h r1 r2 r3 r4 r5)
  clear p1 p2 p3 p4 p5 q1 q2 q3 q4 q5 r1 r2 r3 r4 r5
  by_cases z : i = 39999
  · subst z
    obtain ⟨s1, s2, s3, s4, s5⟩ := of_months (k := 2) (i := 39999) (p := 1) (f := 119999) (t := 119999) (by omega) (by omega) (by decide) (by decide) (by omega) (by omega) (by omega) (by omega) (by simp [sm]) (by simp [em, sm])
    have C1 := Lib.hid (fun w h => made_any 2 39999 1 119999 119999 w h s1 s2 s3 s4 s5)
    clear s1 s2 s3 s4 s5 n1 n2 n3 n4 n5 b1 b2
    go_enter Tryd.func8, Tryd.ntmps8
    go_wp2_with fail; refine (awake3 _ HT.out).mono ?_; rintro e w0 ⟨rfl, k0⟩; have H0 := Lib.hid (HT.out.kp k0)
    go_wp2_with fail; refine (C1.out _ H0.out).mono ?_; rintro e w1 ⟨rfl, k1⟩; have H1 := Lib.hid (H0.out.kp k1)
    go_wp2_with fail; refine (C2.out _ H1.out).mono ?_; rintro e w2 ⟨rfl, k2⟩; have H2 := Lib.hid (H1.out.kp k2)
    go_wp2_with fail; refine (C3.out _ H2.out).mono ?_; rintro e w3 ⟨rfl, k3⟩; have H3 := Lib.hid (H2.out.kp k3)
    go_wp2_with fail; refine (C4.out _ H3.out).mono ?_; rintro e w4 ⟨rfl, k4⟩; have H4 := Lib.hid (H3.out.kp k4)
    go_wp2
    go_ret
    exact ⟨rfl, k0.trans (k1.trans (k2.trans (k3.trans (k4))))⟩
  · obtain ⟨s1, s2, s3, s4, s5⟩ := of_months (k := 2) (i := i) (p := 1) (f := 3 * i + 2) (t := 3 * i + 4) (by omega) (by omega) (by decide) (by decide) (by omega) (by omega) (by omega) (by omega) (by simp [sm]; omega) (by unfold em; rw [if_neg (by omega), if_neg (by omega)]; simp [sm]; omega)
    have C1 := Lib.hid (fun w h => made_any 2 i 1 (3 * i + 2) (3 * i + 4) w h s1 s2 s3 s4 s5)
    clear s1 s2 s3 s4 s5 n1 n2 n3 n4 n5
    have z2 : i < 39999 := by omega
    clear z
    go_enter Tryd.func8, Tryd.ntmps8
    go_wp2_with fail; refine (awake3 _ HT.out).mono ?_; rintro e w0 ⟨rfl, k0⟩; have H0 := Lib.hid (HT.out.kp k0)
    go_wp2_with fail; refine (C1.out _ H0.out).mono ?_; rintro e w1 ⟨rfl, k1⟩; have H1 := Lib.hid (H0.out.kp k1)
    go_wp2_with fail; refine (C2.out _ H1.out).mono ?_; rintro e w2 ⟨rfl, k2⟩; have H2 := Lib.hid (H1.out.kp k2)
    go_wp2_with fail; refine (C3.out _ H2.out).mono ?_; rintro e w3 ⟨rfl, k3⟩; have H3 := Lib.hid (H2.out.kp k3)
    go_wp2_with fail; refine (C4.out _ H3.out).mono ?_; rintro e w4 ⟨rfl, k4⟩; have H4 := Lib.hid (H3.out.kp k4)
    go_wp2
    go_ret
    exact ⟨rfl, k0.trans (k1.trans (k2.trans (k3.trans (k4))))⟩
end Go.Proofs.YtfopcacoacedcaaDoor
