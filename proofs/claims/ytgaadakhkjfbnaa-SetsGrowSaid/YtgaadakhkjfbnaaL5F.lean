/-
  Layer 5: plain lists for SetsGrow, and its walk.
-/
import Derived.Test.YtgaadakhkjfbnaaSetsD
namespace Go.Proofs.Ytgaadakhkjfbnaa
open Go.RowKit
set_option linter.unusedVariables false
set_option linter.unusedSimpArgs false
theorem grow_mem (l : List R) (k n : Int) (hk : 0 ≤ k) : memR (nf (shR (-k) k (nf l))) n ↔ (∃ p, memR l p ∧ n - k ≤ p ∧ p ≤ n + k) ∧ -1099511627776 ≤ n ∧ n ≤ 1099511627776 := by
  rw [nf_mem]
  unfold shR
  constructor
  · rintro ⟨r, hr, g1, g2, g3, g4⟩
    simp only [List.mem_map] at hr
    obtain ⟨q, hq, rfl⟩ := hr
    obtain ⟨o1, o2, o3⟩ := sane_ok (nf_sane l) q hq
    simp only at g1 g2
    refine ⟨⟨max q.1 (n - k), (nf_mem l _).1 ⟨q, hq, by omega, by omega, by omega, by omega⟩, by omega, by omega⟩, g3, g4⟩
  · rintro ⟨⟨p, hp, g1, g2⟩, g3, g4⟩
    obtain ⟨q, hq, h1, h2, _⟩ := (nf_mem l p).2 hp
    exact ⟨(q.1 + -k, q.2 + k), List.mem_map.2 ⟨q, hq, rfl⟩, by simp only; omega, by simp only; omega, g3, g4⟩
theorem memR_in' {l : List R} {n : Int} (h : memR l n) : -1099511627776 ≤ n ∧ n ≤ 1099511627776 := by
  obtain ⟨r, _, _, _, g3, g4⟩ := h
  exact ⟨g3, g4⟩
theorem grow_twice (l : List R) (k j : Int) (hk : 0 ≤ k) (hj : 0 ≤ j) : nf (shR (-j) j (nf (nf (shR (-k) k (nf l))))) = nf (shR (-(k + j)) (k + j) (nf l)) :=
  sane_ext (nf_sane _) (nf_sane _) (fun n => by
    rw [grow_mem _ _ _ hj, grow_mem _ _ _ (by omega)]
    constructor
    · rintro ⟨⟨p, hp, g1, g2⟩, g⟩
      obtain ⟨⟨q, hq, g3, g4⟩, _⟩ := (grow_mem l k p hk).1 hp
      exact ⟨⟨q, hq, by omega, by omega⟩, g⟩
    · rintro ⟨⟨q, hq, g3, g4⟩, g⟩
      have := memR_in' hq
      by_cases c1 : q < n - j
      · exact ⟨⟨n - j, (grow_mem l k _ hk).2 ⟨⟨q, hq, by omega, by omega⟩, by omega, by omega⟩, by omega, by omega⟩, g⟩
      · by_cases c2 : n + j < q
        · exact ⟨⟨n + j, (grow_mem l k _ hk).2 ⟨⟨q, hq, by omega, by omega⟩, by omega, by omega⟩, by omega, by omega⟩, g⟩
        · exact ⟨⟨q, (grow_mem l k _ hk).2 ⟨⟨q, hq, by omega, by omega⟩, by omega, by omega⟩, by omega, by omega⟩, g⟩)
theorem grow_none (l : List R) : nf (shR (-0) 0 (nf l)) = nf l :=
  sane_ext (nf_sane _) (nf_sane _) (fun n => by
    rw [grow_mem _ _ _ (Int.le_refl 0), nf_mem]
    constructor
    · rintro ⟨⟨p, hp, g1, g2⟩, _⟩
      obtain rfl : p = n := by omega
      exact hp
    · intro g
      exact ⟨⟨n, g, by omega, by omega⟩, memR_in' g⟩)
theorem grow_has (l : List R) (k : Int) (hk : 0 ≤ k) : diffR l (nf (shR (-k) k (nf l))) = [] :=
  sane_ext (diffR_sane _ _) trivial (fun n => by
    rw [diffR_mem]
    exact ⟨fun ⟨g, g2⟩ => absurd ((grow_mem l k n hk).2 ⟨⟨n, g, by omega, by omega⟩, memR_in' g⟩) g2, fun g => absurd g (memR_nil n)⟩)
/-- what Next tells of the grown set -/
theorem grow_next (l : List R) (k n : Int) (hk : 0 ≤ k) (hn : -1099511627776 ≤ n ∧ n ≤ 1099511627776) : hasB (nf (nf (shR (-k) k (nf l)))) n = ((nxt (nf l) (n - k)).2 && decide ((nxt (nf l) (n - k)).1 ≤ n + k)) :=
  bool_iff (by
    rw [hasB_nf, grow_mem _ _ _ hk]
    rcases nxt_spec (nf l) (n - k) (nf_sane l) with ⟨e, h⟩ | ⟨a, e, h1, h2, h3⟩
    · rw [e]
      simp only [Bool.false_and]
      refine ⟨?_, fun h => by cases h⟩
      rintro ⟨⟨p, hp, g1, _⟩, _⟩
      have := h p ((nf_mem l p).2 hp)
      omega
    · rw [e]
      simp only [Bool.true_and, decide_eq_true_iff]
      constructor
      · rintro ⟨⟨p, hp, g1, g2⟩, _⟩
        have := h3 p ((nf_mem l p).2 hp) g1
        omega
      · intro g
        exact ⟨⟨a, (nf_mem l a).1 h2, h1, g⟩, hn⟩)
set_option maxHeartbeats 8000000 in
set_option maxRecDepth 100000 in
theorem setsGrow_walk (v : Value) (l : List R) (k j n : Int) (w : World) (hv : RunsAt w v l) (hl : I64R l) :
    Calls Try.prog 12 #[v, .int .i64 k, .int .i64 j, .int .i64 n] w fun e w' => e = .returned (.bool true) ∧ Kp w w' := by
  obtain ⟨ad, c, rfl⟩ := hv.slice
  by_cases h40 : (40 : Int) < l.length
  · have g40 : decide ((40 : Int) < l.length) = true := decide_eq_true h40
    clear hv
    go_enter Try.func12, Try.ntmps12
    go_wp2_with fail; refine (awake05 _).mono ?_; rintro e w1 ⟨rfl, kk⟩; have K1 := Lib.hid kk; clear kk; go_wp2; go_ret; exact ⟨rfl, K1.out⟩
  have g40 : decide ((40 : Int) < l.length) = false := decide_eq_false h40
  have h40' : l.length ≤ 40 := by omega
  by_cases h1 : k < 0
  · have e1 : decide (k < 0) = true := decide_eq_true h1
    clear hv
    go_enter Try.func12, Try.ntmps12
    go_wp2_with fail; refine (awake05 _).mono ?_; rintro e w1 ⟨rfl, kk⟩; have K1 := Lib.hid kk; clear kk; go_wp2; go_ret; exact ⟨rfl, K1.out⟩
  have e1 : decide (k < 0) = false := decide_eq_false h1
  by_cases h2 : 1000000 < k
  · have e2 : decide (1000000 < k) = true := decide_eq_true h2
    clear hv
    go_enter Try.func12, Try.ntmps12
    go_wp2_with fail; refine (awake05 _).mono ?_; rintro e w1 ⟨rfl, kk⟩; have K1 := Lib.hid kk; clear kk; go_wp2; go_ret; exact ⟨rfl, K1.out⟩
  have e2 : decide (1000000 < k) = false := decide_eq_false h2
  by_cases h3 : j < 0
  · have e3 : decide (j < 0) = true := decide_eq_true h3
    clear hv
    go_enter Try.func12, Try.ntmps12
    go_wp2_with fail; refine (awake05 _).mono ?_; rintro e w1 ⟨rfl, kk⟩; have K1 := Lib.hid kk; clear kk; go_wp2; go_ret; exact ⟨rfl, K1.out⟩
  have e3 : decide (j < 0) = false := decide_eq_false h3
  by_cases h4 : 1000000 < j
  · have e4 : decide (1000000 < j) = true := decide_eq_true h4
    clear hv
    go_enter Try.func12, Try.ntmps12
    go_wp2_with fail; refine (awake05 _).mono ?_; rintro e w1 ⟨rfl, kk⟩; have K1 := Lib.hid kk; clear kk; go_wp2; go_ret; exact ⟨rfl, K1.out⟩
  have e4 : decide (1000000 < j) = false := decide_eq_false h4
  by_cases h5 : n < -1000000
  · have e5 : decide (n < -1000000) = true := decide_eq_true h5
    clear hv
    go_enter Try.func12, Try.ntmps12
    go_wp2_with fail; refine (awake05 _).mono ?_; rintro e w1 ⟨rfl, kk⟩; have K1 := Lib.hid kk; clear kk; go_wp2; go_ret; exact ⟨rfl, K1.out⟩
  have e5 : decide (n < -1000000) = false := decide_eq_false h5
  by_cases h6 : 1000000 < n
  · have e6 : decide (1000000 < n) = true := decide_eq_true h6
    clear hv
    go_enter Try.func12, Try.ntmps12
    go_wp2_with fail; refine (awake05 _).mono ?_; rintro e w1 ⟨rfl, kk⟩; have K1 := Lib.hid kk; clear kk; go_wp2; go_ret; exact ⟨rfl, K1.out⟩
  have e6 : decide (1000000 < n) = false := decide_eq_false h6
  have gk : ∀ x : Int, 0 ≤ x → x ≤ 2000000 → grK x = x := fun x a b => by unfold grK; omega
  have gm : grK (-1) = 0 := by decide
  have SX := nf_sane (shR (-k) k (nf l))
  have LN : (nf l).length ≤ 40 := nf_bd h40'
  have LX : (nf (shR (-k) k (nf l))).length ≤ 40 := Nat.le_trans (nf_len _) (by rw [shR_len]; exact LN)
  have LW : (nf (shR (-(k + j)) (k + j) (nf l))).length ≤ 40 := Nat.le_trans (nf_len _) (by rw [shR_len]; exact LN)
  have EH := grow_next l k n (by omega) (by omega)
  obtain ⟨m, ok, en⟩ : ∃ m ok, nxt (nf l) (n - k) = (m, ok) := ⟨_, _, rfl⟩
  rw [en] at EH
  simp only at EH
  have GG := Lib.hid (fun w1 (q : Kp w w1) => by
    have h := grow_any _ l k w1 (hv.kp q) hl (by omega)
    rw [gk k (by omega) (by omega)] at h
    exact h)
  have GK := Lib.hid (fun w1 (q : Kp w w1) => by
    have h := grow_any _ l (k + j) w1 (hv.kp q) hl (by omega)
    rw [gk (k + j) (by omega) (by omega)] at h
    exact h)
  have GZ := Lib.hid (fun w1 (q : Kp w w1) => by
    have h := grow_any _ l (-1) w1 (hv.kp q) hl (by omega)
    rw [gm, grow_none] at h
    exact h)
  have GA := Lib.hid (fun w1 (q : Kp w w1) => make_any _ l w1 (hv.kp q) hl (by omega))
  have GJ := Lib.hid (fun w1 x (h1 : RunsAt w1 x (nf (shR (-k) k (nf l)))) => by
    have h := grow_any x _ j w1 h1 (sane_i64 SX) (by omega)
    rw [gk j (by omega) (by omega), grow_twice l k j (by omega) (by omega)] at h
    exact h)
  have GM := Lib.hid (fun w1 x (q : Kp w w1) (h1 : RunsAt w1 x (nf (shR (-k) k (nf l)))) => by
    have h := minus_any _ x l _ w1 (hv.kp q) h1 hl (sane_i64 SX) (by omega) (by omega)
    rw [grow_has l k (by omega)] at h
    exact h)
  have HX := Lib.hid (fun w1 ad1 c1 (h1 : RunsAt w1 (.slice ad1 (nf (shR (-k) k (nf l))).length c1) (nf (shR (-k) k (nf l)))) => by
    have h := has_any ad1 c1 _ n w1 h1 (sane_i64 SX) (by omega) (by omega) (by omega)
    rw [EH] at h
    exact h)
  have NX := Lib.hid (fun w1 (q : Kp w w1) => by
    have h := next_of ad l.length c (nf l) (n - k) w1 (asS_any _ l w1 (hv.kp q) hl (by omega)) (nf_sane l) (by omega) (by omega) (by omega)
    rw [en] at h
    exact h)
  have SXX := Lib.hid SX
  clear hv hl EH SX en gk gm
  generalize nf (shR (-k) k (nf l)) = X at *
  generalize nf (shR (-(k + j)) (k + j) (nf l)) = W2 at *
  generalize nf l = N at *
  obtain ⟨y, ey⟩ : ∃ y, decide (m ≤ n + k) = y := ⟨_, rfl⟩
  rw [ey] at HX
  cases ok <;> cases y
  all_goals
    go_enter Try.func12, Try.ntmps12
    go_wp2_with fail
    refine (awake05 _).mono ?_
    rintro e w1 ⟨rfl, kk⟩
    have K1 := Lib.hid kk
    clear kk
    go_wp2_with fail; refine (GG.out _ K1.out).mono ?_; rintro e w2 ⟨v5, rfl, own5, kk⟩; have R1 := Lib.hid (runsAt_own own5); obtain ⟨adR1, cR1, rfl⟩ := (R1).out.slice; have q := Lib.hid kk; clear own5 kk
    have K2 := Lib.hid (K1.out.trans q.out)
    clear q
    go_wp2_with fail; refine (NX.out _ K2.out).mono ?_; rintro e w3 ⟨rfl, kk⟩; have q := Lib.hid kk; clear kk
    have Z3 := Lib.hid q.out
    clear q
    go_wp2_with fail; refine (sane_yes _ X _ (R1.out.kp Z3.out) SXX.out).mono ?_; rintro e w4 ⟨rfl, kk⟩; have q := Lib.hid kk; clear kk
    have Z4 := Lib.hid (Z3.out.trans q.out)
    clear q
    go_wp2_with fail; refine (HX.out _ _ _ (R1.out.kp Z4.out)).mono ?_; rintro e w5 ⟨rfl, kk⟩; have q := Lib.hid kk; clear kk
    have Z5 := Lib.hid (Z4.out.trans q.out)
    clear q
    go_wp2_with fail; refine (GJ.out _ _ (R1.out.kp Z5.out)).mono ?_; rintro e w6 ⟨v5, rfl, own5, kk⟩; have R2 := Lib.hid (runsAt_own own5); obtain ⟨adR2, cR2, rfl⟩ := (R2).out.slice; have q := Lib.hid kk; clear own5 kk
    have Z6 := Lib.hid (Z5.out.trans q.out)
    clear q
    go_wp2_with fail; refine (GK.out _ (K2.out.trans Z6.out)).mono ?_; rintro e w7 ⟨v5, rfl, own5, kk⟩; have R3 := Lib.hid (runsAt_own own5); obtain ⟨adR3, cR3, rfl⟩ := (R3).out.slice; have q := Lib.hid kk; clear own5 kk
    have Z7 := Lib.hid (Z6.out.trans q.out)
    have R2' := Lib.hid (R2.out.kp q.out)
    clear q R2
    go_wp2_with fail; refine (same_any _ _ W2 _ R2'.out R3.out (by omega)).mono ?_; rintro e w8 ⟨rfl, kk⟩; have q := Lib.hid kk; clear kk
    have Z8 := Lib.hid (Z7.out.trans q.out)
    clear q
    go_wp2_with fail; refine (GZ.out _ (K2.out.trans Z8.out)).mono ?_; rintro e w9 ⟨v5, rfl, own5, kk⟩; have R4 := Lib.hid (runsAt_own own5); obtain ⟨adR4, cR4, rfl⟩ := (R4).out.slice; have q := Lib.hid kk; clear own5 kk
    have Z9 := Lib.hid (Z8.out.trans q.out)
    clear q
    go_wp2_with fail; refine (GA.out _ (K2.out.trans Z9.out)).mono ?_; rintro e w10 ⟨v5, rfl, own5, kk⟩; have R5 := Lib.hid (runsAt_own own5); obtain ⟨adR5, cR5, rfl⟩ := (R5).out.slice; have q := Lib.hid kk; clear own5 kk
    have Z10 := Lib.hid (Z9.out.trans q.out)
    have R4' := Lib.hid (R4.out.kp q.out)
    clear q R4
    go_wp2_with fail; refine (same_any _ _ N _ R4'.out R5.out (by omega)).mono ?_; rintro e w11 ⟨rfl, kk⟩; have q := Lib.hid kk; clear kk
    have Z11 := Lib.hid (Z10.out.trans q.out)
    clear q
    go_wp2_with fail; refine (GM.out _ _ (K2.out.trans Z11.out) (R1.out.kp Z11.out)).mono ?_; rintro e w12 ⟨v5, rfl, own5, kk⟩; have R6 := Lib.hid (runsAt_own own5); obtain ⟨adR6, cR6, rfl⟩ := (R6).out.slice; have q := Lib.hid kk; clear own5 kk
    have Z12 := Lib.hid (Z11.out.trans q.out)
    clear q
    go_wp2
    go_ret
    exact ⟨rfl, K2.out.trans Z12.out⟩
end Go.Proofs.Ytgaadakhkjfbnaa
