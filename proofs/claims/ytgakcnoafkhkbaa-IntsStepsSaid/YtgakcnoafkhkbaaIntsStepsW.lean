/-
  IntsSteps: the walk.
-/
import Derived.Test.YtgakcnoafkhkbaaAwake1
namespace Go.Proofs.Ytgakcnoafkhkbaa
open Go.RowKit

set_option maxHeartbeats 400000 in
set_option maxRecDepth 100000 in
theorem intsSteps_walk (a b c : Int) (w : World) (ha : -9223372036854775808 ≤ a) (ha' : a ≤ 9223372036854775807) (hb : -9223372036854775808 ≤ b) (hb' : b ≤ 9223372036854775807) (hc : -9223372036854775808 ≤ c) (hc' : c ≤ 9223372036854775807) :
    Calls Try.prog 8 #[.int .i64 a, .int .i64 b, .int .i64 c] w fun e w' => e = .returned (.bool true) ∧ Below w.heap.size w w' := by
  by_cases d : b < 1
  · go_enter Try.func8, Try.ntmps8
    go_wp2_with fail; refine ((awake1 _)).mono ?_; rintro e w' ⟨rfl, rfl⟩
    go_wp2
    go_ret
    exact ⟨rfl, Below.refl _ _⟩
  have c1 := fun w => add_any a b w ha ha' hb hb'
  have c2 := fun w => floor_any a b w ha ha' hb hb'
  have c3 := fun w => mod_any a b w ha ha' hb hb'
  have c4 := fun w => floor_any c b w hc hc' hb hb'
  have eF : flr a b = a / b := by unfold flr; rw [if_neg d]
  have eM : mdl a b = a % b := by unfold mdl; rw [if_neg d]
  have eC : flr c b = c / b := by unfold flr; rw [if_neg d]
  have m1 : c < a → flr c b ≤ flr a b := fun h => by rw [eF, eC]; exact Int.ediv_le_ediv (by omega) (by omega)
  have m2 : a < c → flr a b ≤ flr c b := fun h => by rw [eF, eC]; exact Int.ediv_le_ediv (by omega) (by omega)
  have m3 : c = a → flr c b = flr a b := fun h => by rw [h]
  obtain ⟨F, hF⟩ : ∃ F, F = flr a b := ⟨_, rfl⟩
  obtain ⟨G, hG⟩ : ∃ G, G = flr c b := ⟨_, rfl⟩
  obtain ⟨R, hR⟩ : ∃ R, R = mdl a b := ⟨_, rfl⟩
  rw [← hF] at c2 m1 m2 m3 eF
  rw [← hG] at c4 m1 m2 m3
  rw [← hR] at c3 eM
  have t1 : (decide (c < a) = true ∧ decide (a < c) = false ∧ decide (G ≤ F) = true) ∨ (decide (c < a) = false ∧ decide (F ≤ G) = true ∧ decide (a < c) = true) ∨ (decide (c < a) = false ∧ decide (F ≤ G) = true ∧ decide (a < c) = false ∧ decide (G ≤ F) = true) := by
    simp only [decide_eq_true_eq, decide_eq_false_iff_not]; omega
  clear m1 m2 m3 hG eC
  rcases Bool.eq_false_or_eq_true (fitsB (a + b)) with f | f
  · have g := fitsB_bd f
    rw [f, only_yes f] at c1
    have c5 := fun w => floor_any (a + b) b w g.1 g.2 hb hb'
    have c6 := fun w => mod_any (a + b) b w g.1 g.2 hb hb'
    have e5 : flr (a + b) b = F + 1 := by unfold flr; rw [if_neg d, eF, Int.add_ediv_of_dvd_right (Int.dvd_refl b), Int.ediv_self (by omega)]
    have e6 : mdl (a + b) b = R := by unfold mdl; rw [if_neg d, eM]; simp
    have bd := ediv_bd (show 1 ≤ b by omega) g.1 g.2
    have e7 : (a + b) / b = F + 1 := by rw [Int.add_ediv_of_dvd_right (Int.dvd_refl b), Int.ediv_self (by omega), eF]
    rw [e7] at bd
    have bF := ediv_bd (show 1 ≤ b by omega) ha ha'
    rw [← eF] at bF
    rw [e5] at c5
    rw [e6] at c6
    clear e5 e6 e7 f hF hR eF eM
    obtain ⟨n, hn⟩ : ∃ n, n = a + b := ⟨_, rfl⟩
    rw [← hn] at c1 c5 c6
    clear hn g
    have C1 := Lib.hid c1
    have C2 := Lib.hid c2
    have C3 := Lib.hid c3
    have C4 := Lib.hid c4
    have C5 := Lib.hid c5
    have C6 := Lib.hid c6
    clear c1 c2 c3 c4 c5 c6
    rcases t1 with ⟨t1, t2, t3⟩ | ⟨t1, t2, t3⟩ | ⟨t1, t2, t3, t4⟩
    · go_enter Try.func8, Try.ntmps8
      go_wp2_with fail; refine ((awake1 _)).mono ?_; rintro e w' ⟨rfl, rfl⟩
      go_wp2_with fail; refine ((C1.out _)).mono ?_; rintro e w' ⟨rfl, rfl⟩
      go_wp2_with fail; refine ((C5.out _)).mono ?_; rintro e w' ⟨rfl, rfl⟩
      go_wp2_with fail; refine ((C2.out _)).mono ?_; rintro e w' ⟨rfl, rfl⟩
      go_wp2_with fail; refine ((C6.out _)).mono ?_; rintro e w' ⟨rfl, rfl⟩
      go_wp2_with fail; refine ((C3.out _)).mono ?_; rintro e w' ⟨rfl, rfl⟩
      go_wp2_with fail; refine ((C4.out _)).mono ?_; rintro e w' ⟨rfl, rfl⟩
      go_wp2_with fail; refine ((C2.out _)).mono ?_; rintro e w' ⟨rfl, rfl⟩
      go_wp2
      go_ret
      exact ⟨rfl, Below.refl _ _⟩
    · go_enter Try.func8, Try.ntmps8
      go_wp2_with fail; refine ((awake1 _)).mono ?_; rintro e w' ⟨rfl, rfl⟩
      go_wp2_with fail; refine ((C1.out _)).mono ?_; rintro e w' ⟨rfl, rfl⟩
      go_wp2_with fail; refine ((C5.out _)).mono ?_; rintro e w' ⟨rfl, rfl⟩
      go_wp2_with fail; refine ((C2.out _)).mono ?_; rintro e w' ⟨rfl, rfl⟩
      go_wp2_with fail; refine ((C6.out _)).mono ?_; rintro e w' ⟨rfl, rfl⟩
      go_wp2_with fail; refine ((C3.out _)).mono ?_; rintro e w' ⟨rfl, rfl⟩
      go_wp2_with fail; refine ((C4.out _)).mono ?_; rintro e w' ⟨rfl, rfl⟩
      go_wp2_with fail; refine ((C2.out _)).mono ?_; rintro e w' ⟨rfl, rfl⟩
      go_wp2
      go_ret
      exact ⟨rfl, Below.refl _ _⟩
    · go_enter Try.func8, Try.ntmps8
      go_wp2_with fail; refine ((awake1 _)).mono ?_; rintro e w' ⟨rfl, rfl⟩
      go_wp2_with fail; refine ((C1.out _)).mono ?_; rintro e w' ⟨rfl, rfl⟩
      go_wp2_with fail; refine ((C5.out _)).mono ?_; rintro e w' ⟨rfl, rfl⟩
      go_wp2_with fail; refine ((C2.out _)).mono ?_; rintro e w' ⟨rfl, rfl⟩
      go_wp2_with fail; refine ((C6.out _)).mono ?_; rintro e w' ⟨rfl, rfl⟩
      go_wp2_with fail; refine ((C3.out _)).mono ?_; rintro e w' ⟨rfl, rfl⟩
      go_wp2_with fail; refine ((C4.out _)).mono ?_; rintro e w' ⟨rfl, rfl⟩
      go_wp2_with fail; refine ((C2.out _)).mono ?_; rintro e w' ⟨rfl, rfl⟩
      go_wp2_with fail; refine ((C4.out _)).mono ?_; rintro e w' ⟨rfl, rfl⟩
      go_wp2_with fail; refine ((C2.out _)).mono ?_; rintro e w' ⟨rfl, rfl⟩
      go_wp2
      go_ret
      exact ⟨rfl, Below.refl _ _⟩
  · rw [f, only_no f] at c1
    clear hF hR eF eM f
    have C1 := Lib.hid c1
    have C2 := Lib.hid c2
    have C4 := Lib.hid c4
    clear c1 c2 c3 c4
    rcases t1 with ⟨t1, t2, t3⟩ | ⟨t1, t2, t3⟩ | ⟨t1, t2, t3, t4⟩
    · go_enter Try.func8, Try.ntmps8
      go_wp2_with fail; refine ((awake1 _)).mono ?_; rintro e w' ⟨rfl, rfl⟩
      go_wp2_with fail; refine ((C1.out _)).mono ?_; rintro e w' ⟨rfl, rfl⟩
      go_wp2_with fail; refine ((C4.out _)).mono ?_; rintro e w' ⟨rfl, rfl⟩
      go_wp2_with fail; refine ((C2.out _)).mono ?_; rintro e w' ⟨rfl, rfl⟩
      go_wp2
      go_ret
      exact ⟨rfl, Below.refl _ _⟩
    · go_enter Try.func8, Try.ntmps8
      go_wp2_with fail; refine ((awake1 _)).mono ?_; rintro e w' ⟨rfl, rfl⟩
      go_wp2_with fail; refine ((C1.out _)).mono ?_; rintro e w' ⟨rfl, rfl⟩
      go_wp2_with fail; refine ((C4.out _)).mono ?_; rintro e w' ⟨rfl, rfl⟩
      go_wp2_with fail; refine ((C2.out _)).mono ?_; rintro e w' ⟨rfl, rfl⟩
      go_wp2
      go_ret
      exact ⟨rfl, Below.refl _ _⟩
    · go_enter Try.func8, Try.ntmps8
      go_wp2_with fail; refine ((awake1 _)).mono ?_; rintro e w' ⟨rfl, rfl⟩
      go_wp2_with fail; refine ((C1.out _)).mono ?_; rintro e w' ⟨rfl, rfl⟩
      go_wp2_with fail; refine ((C4.out _)).mono ?_; rintro e w' ⟨rfl, rfl⟩
      go_wp2_with fail; refine ((C2.out _)).mono ?_; rintro e w' ⟨rfl, rfl⟩
      go_wp2_with fail; refine ((C4.out _)).mono ?_; rintro e w' ⟨rfl, rfl⟩
      go_wp2_with fail; refine ((C2.out _)).mono ?_; rintro e w' ⟨rfl, rfl⟩
      go_wp2
      go_ret
      exact ⟨rfl, Below.refl _ _⟩
end Go.Proofs.Ytgakcnoafkhkbaa
