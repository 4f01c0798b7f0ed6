/-
  Layer 4: the walk of RunsNext.
-/
import Derived.Test.YtgaadakhkjfbnaaL4B
namespace Go.Proofs.Ytgaadakhkjfbnaa
open Go.RowKit
set_option linter.unusedVariables false
set_option linter.unusedSimpArgs false
theorem mem_cons_sane {r : R} {t : List R} (h : sane (r :: t)) (n : Int) : memR (r :: t) n ↔ (r.1 ≤ n ∧ n ≤ r.2) ∨ memR t n := sane_mem_head h n
theorem nxt_spec : ∀ (l : List R) (n : Int), sane l → (nxt l n = (0, false) ∧ ∀ m, memR l m → m < n) ∨ ∃ a, nxt l n = (a, true) ∧ n ≤ a ∧ memR l a ∧ ∀ m, memR l m → n ≤ m → a ≤ m := by
  intro l
  induction l with
  | nil => intro n _; exact .inl ⟨rfl, fun m h => absurd h (memR_nil m)⟩
  | cons r t ih =>
    intro n hs
    rw [nxt]
    have hr := (sane_head hs).1
    have B := sane_beyond hs
    by_cases c : n ≤ r.2
    · rw [if_pos c]
      refine .inr ⟨max n r.1, rfl, by omega, (mem_cons_sane hs _).2 (.inl ⟨by omega, by omega⟩), fun m hm hn => ?_⟩
      rcases (mem_cons_sane hs m).1 hm with g | g
      · omega
      · have := B m g; omega
    · rw [if_neg c]
      rcases ih n (sane_tail hs) with ⟨e, h⟩ | ⟨a, e, h1, h2, h3⟩
      · refine .inl ⟨e, fun m hm => ?_⟩
        rcases (mem_cons_sane hs m).1 hm with g | g
        · omega
        · exact h m g
      · refine .inr ⟨a, e, h1, (mem_cons_sane hs _).2 (.inr h2), fun m hm hn => ?_⟩
        rcases (mem_cons_sane hs m).1 hm with g | g
        · omega
        · exact h3 m g hn
theorem prv_spec : ∀ (l : List R) (n : Int), sane l → (prv l n = (0, false) ∧ ∀ m, memR l m → n < m) ∨ ∃ a, prv l n = (a, true) ∧ a ≤ n ∧ memR l a ∧ ∀ m, memR l m → m ≤ n → m ≤ a := by
  intro l
  induction l with
  | nil => intro n _; exact .inl ⟨rfl, fun m h => absurd h (memR_nil m)⟩
  | cons r t ih =>
    intro n hs
    rw [prv]
    have hr := (sane_head hs).1
    have B := sane_beyond hs
    rcases ih n (sane_tail hs) with ⟨e, h⟩ | ⟨a, e, h1, h2, h3⟩
    · rw [e, if_neg (by simp)]
      by_cases c : r.1 ≤ n
      · rw [if_pos c]
        refine .inr ⟨min n r.2, rfl, by omega, (mem_cons_sane hs _).2 (.inl ⟨by omega, by omega⟩), fun m hm hn => ?_⟩
        rcases (mem_cons_sane hs m).1 hm with g | g
        · omega
        · have := h m g; omega
      · rw [if_neg c]
        refine .inl ⟨rfl, fun m hm => ?_⟩
        rcases (mem_cons_sane hs m).1 hm with g | g
        · omega
        · exact h m g
    · rw [e, if_pos rfl]
      refine .inr ⟨a, rfl, h1, (mem_cons_sane hs _).2 (.inr h2), fun m hm hn => ?_⟩
      rcases (mem_cons_sane hs m).1 hm with g | g
      · have := B a h2; omega
      · exact h3 m g hn
theorem mem_at {l : List R} (h : sane l) {k : Nat} (hk : k < l.length) : memR l (at_ l k).1 ∧ memR l (at_ l k).2 := by
  obtain ⟨o1, o2, o3⟩ := sane_ok h _ (at_mem hk)
  exact ⟨⟨_, at_mem hk, Int.le_refl _, o1, by omega, by omega⟩, ⟨_, at_mem hk, o1, Int.le_refl _, by omega, by omega⟩⟩
theorem hasB_sane {l : List R} (h : sane l) (n : Int) : hasB l n = true ↔ memR l n := by
  have := hasB_nf l n
  rwa [nf_of_sane h] at this
theorem hasB_no {l : List R} (h : sane l) {n : Int} (g : ¬ memR l n) : hasB l n = false := by
  rcases Bool.eq_false_or_eq_true (hasB l n) with e | e
  · exact absurd ((hasB_sane h n).1 e) g
  · exact e
theorem mem_bd {l : List R} {n : Int} (h : memR l n) : -1099511627776 ≤ n ∧ n ≤ 1099511627776 := by
  obtain ⟨r, _, _, _, h3, h4⟩ := h; exact ⟨h3, h4⟩
theorem no_mem {l : List R} (h : sane l) (g : ∀ m, ¬ memR l m) : l = [] := by
  cases l with
  | nil => rfl
  | cons r t => exact absurd ((mem_cons_sane h r.1).2 (.inl ⟨Int.le_refl _, (sane_head h).1⟩)) (g _)
/-- what the walk is told of the set, and of the two answers -/
structure NX (L : List R) (n a b : Int) (ok is : Bool) : Prop where
  hok : ok = true → n ≤ a ∧ memR L a ∧ ∀ m, memR L m → n ≤ m → a ≤ m
  hno : ok = false → a = 0 ∧ ∀ m, memR L m → m < n
  his : is = true → b ≤ n ∧ memR L b ∧ ∀ m, memR L m → m ≤ n → m ≤ b
  hio : is = false → b = 0 ∧ ∀ m, memR L m → n < m
set_option maxHeartbeats 4000000 in
set_option maxRecDepth 100000 in
theorem next_ff (ad : Option Addr) (c : Nat) (l L : List R) (n a b : Int) (w : World) (hl40 : l.length ≤ 40) (hS : sane L) (hL : L.length ≤ 40) (b1 : -9223372036854775808 ≤ n) (b2 : n ≤ 9223372036854775807)
    (CN : ∀ w1, Kp w w1 → Calls Try.prog 22 #[.slice ad l.length c, .int .i64 n] w1 fun e w' => e = .returned (.tuple #[.int .i64 a, .bool false]) ∧ Kp w1 w')
    (CP : ∀ w1, Kp w w1 → Calls Try.prog 24 #[.slice ad l.length c, .int .i64 n] w1 fun e w' => e = .returned (.tuple #[.int .i64 b, .bool false]) ∧ Kp w1 w')
    (CP2 : ∀ x w1, Kp w w1 → -9223372036854775808 ≤ x → x ≤ 9223372036854775807 → Calls Try.prog 24 #[.slice ad l.length c, .int .i64 x] w1 fun e w' => e = .returned (.tuple #[.int .i64 (prv L x).1, .bool (prv L x).2]) ∧ Kp w1 w')
    (CH : ∀ x w1, Kp w w1 → -9223372036854775808 ≤ x → x ≤ 9223372036854775807 → Calls Try.prog 33 #[.slice ad l.length c, .int .i64 x] w1 fun e w' => e = .returned (.bool (hasB L x)) ∧ Kp w1 w')
    (CM : ∀ w1, Kp w w1 → Calls Try.prog 29 #[.slice ad l.length c] w1 fun e w' => ∃ v', e = .returned v' ∧ RunsAt w' v' L ∧ Kp w1 w')
    (X : NX L n a b false false) :
    Calls Try.prog 6 #[.slice ad l.length c, .int .i64 n] w fun e w' => e = .returned (.bool true) ∧ Kp w w' := by
  have g40 : decide ((40 : Int) < l.length) = false := decide_eq_false (by omega)
  have g40' : ¬ (40 : Int) < l.length := by omega
  have S2 := Lib.hid hS
  have A0 := Lib.hid awake04
  have C1 := Lib.hid CN
  have C2 := Lib.hid CP
  have C3 := Lib.hid CP2
  have C4 := Lib.hid CH
  have C5 := Lib.hid CM
  have HX := Lib.hid X
  clear CN CP CP2 CH CM hS X
  obtain rfl : a = 0 := (HX.out.hno rfl).1
  obtain rfl : b = 0 := (HX.out.hio rfl).1
  have NN : Hid (¬ memR L n) := Lib.hid (fun g => by have := (HX.out.hno rfl).2 n g; omega)
  have D1 := Lib.hid (fun w1 (k : Kp w w1) => C4.out n w1 k b1 b2)
  rw [hasB_no S2.out NN.out] at D1
  go_enter Try.func6, Try.ntmps6
  go_wp2_with fail
  refine (A0.out _).mono ?_
  rintro e w1 ⟨rfl, kk⟩
  have K1 := Lib.hid kk
  clear kk
  go_wp2_with fail; refine (C1.out _ K1.out).mono ?_; rintro e w2 ⟨rfl, kk⟩; have K2 := Lib.hid (K1.out.trans kk); clear kk
  go_wp2_with fail; refine (C2.out _ K2.out).mono ?_; rintro e w3 ⟨rfl, kk⟩; have K3 := Lib.hid (K2.out.trans kk); clear kk
  go_wp2_with fail; refine (D1.out _ K3.out).mono ?_; rintro e wd ⟨rfl, kk⟩; have Kd := Lib.hid (K3.out.trans kk); clear kk
  go_wp2_with fail
  refine (C5.out _ Kd.out).mono ?_
  rintro e w8 ⟨v8, rfl, hh, kk⟩
  have K8 := Lib.hid (Kd.out.trans kk)
  obtain ⟨ad8, c8, rfl⟩ := hh.slice
  have HR := Lib.hid hh
  clear kk hh
  go_wp2
  go_loopw [13] (fun i wr => ∃ k : Nat, k ≤ L.length ∧ i = .int .i64 k ∧ Hid (Kp w8 wr)) (fun i _ => L.length - (intOf i).toNat)
  case atStart => exact ⟨0, by omega, rfl, Lib.hid (Kp.refl _)⟩
  case round =>
    obtain ⟨k, hk, rfl, K9⟩ := hrel
    by_cases hlt : k < L.length
    · rcases HR.out with ⟨_, _, _, e⟩ | ⟨b0, off, cap, ev, hc, hm, hx⟩
      · rw [e] at hlt; simp at hlt
      cases ev
      obtain ⟨d1, d2⟩ := rd_at hx K9.out k hlt
      clear hx
      have MA := Lib.hid (mem_at S2.out hlt)
      obtain ⟨o1, _, _⟩ := sane_ok S2.out _ (at_mem hlt)
      obtain ⟨lo, hi', ee⟩ : ∃ x y, at_ L k = (x, y) := ⟨_, _, rfl⟩
      rw [ee] at d1 d2 MA o1
      simp only at d1 d2 MA o1
      clear ee
      have z1 : (0 : Int) ≤ (k : Int) := by omega
      have z2 : (k : Int) < L.length := by omega
      exact absurd ((HX.out.hno rfl).2 _ MA.out.1) (by have := (HX.out.hio rfl).2 _ MA.out.1; omega)
    · have q0 : decide ((k : Int) < L.length) = false := by simp; omega
      have e0 : L.length = 0 := by
        rw [no_mem S2.out (fun m hm => by have h1 := (HX.out.hno rfl).2 m hm; have h2 := (HX.out.hio rfl).2 m hm; omega)]; rfl
      have e1 : ((L.length : Int) == 0) = true := by rw [e0]; rfl
      go_wp2
      go_ret
      exact ⟨rfl, K8.out.trans K9.out⟩
set_option maxHeartbeats 4000000 in
set_option maxRecDepth 100000 in
theorem next_ft (ad : Option Addr) (c : Nat) (l L : List R) (n a b : Int) (w : World) (hl40 : l.length ≤ 40) (hS : sane L) (hL : L.length ≤ 40) (b1 : -9223372036854775808 ≤ n) (b2 : n ≤ 9223372036854775807)
    (CN : ∀ w1, Kp w w1 → Calls Try.prog 22 #[.slice ad l.length c, .int .i64 n] w1 fun e w' => e = .returned (.tuple #[.int .i64 a, .bool false]) ∧ Kp w1 w')
    (CP : ∀ w1, Kp w w1 → Calls Try.prog 24 #[.slice ad l.length c, .int .i64 n] w1 fun e w' => e = .returned (.tuple #[.int .i64 b, .bool true]) ∧ Kp w1 w')
    (CP2 : ∀ x w1, Kp w w1 → -9223372036854775808 ≤ x → x ≤ 9223372036854775807 → Calls Try.prog 24 #[.slice ad l.length c, .int .i64 x] w1 fun e w' => e = .returned (.tuple #[.int .i64 (prv L x).1, .bool (prv L x).2]) ∧ Kp w1 w')
    (CH : ∀ x w1, Kp w w1 → -9223372036854775808 ≤ x → x ≤ 9223372036854775807 → Calls Try.prog 33 #[.slice ad l.length c, .int .i64 x] w1 fun e w' => e = .returned (.bool (hasB L x)) ∧ Kp w1 w')
    (CM : ∀ w1, Kp w w1 → Calls Try.prog 29 #[.slice ad l.length c] w1 fun e w' => ∃ v', e = .returned v' ∧ RunsAt w' v' L ∧ Kp w1 w')
    (X : NX L n a b false true) (hb : b < n) :
    Calls Try.prog 6 #[.slice ad l.length c, .int .i64 n] w fun e w' => e = .returned (.bool true) ∧ Kp w w' := by
  have g40 : decide ((40 : Int) < l.length) = false := decide_eq_false (by omega)
  have g40' : ¬ (40 : Int) < l.length := by omega
  have S2 := Lib.hid hS
  have A0 := Lib.hid awake04
  have C1 := Lib.hid CN
  have C2 := Lib.hid CP
  have C3 := Lib.hid CP2
  have C4 := Lib.hid CH
  have C5 := Lib.hid CM
  have HX := Lib.hid X
  clear CN CP CP2 CH CM hS X
  obtain rfl : a = 0 := (HX.out.hno rfl).1
  have MB0 := Lib.hid (HX.out.his rfl).2.1
  have mb := mem_bd MB0.out
  have DB := Lib.hid (fun w1 (k : Kp w w1) => C4.out b w1 k (by omega) (by omega))
  rw [(hasB_sane S2.out b).2 MB0.out] at DB
  have qb : decide (n < b) = false := decide_eq_false (by omega)
  have NN : Hid (¬ memR L n) := Lib.hid (fun g => by have := (HX.out.hno rfl).2 n g; omega)
  have D1 := Lib.hid (fun w1 (k : Kp w w1) => C4.out n w1 k b1 b2)
  rw [hasB_no S2.out NN.out] at D1
  go_enter Try.func6, Try.ntmps6
  go_wp2_with fail
  refine (A0.out _).mono ?_
  rintro e w1 ⟨rfl, kk⟩
  have K1 := Lib.hid kk
  clear kk
  go_wp2_with fail; refine (C1.out _ K1.out).mono ?_; rintro e w2 ⟨rfl, kk⟩; have K2 := Lib.hid (K1.out.trans kk); clear kk
  go_wp2_with fail; refine (C2.out _ K2.out).mono ?_; rintro e w3 ⟨rfl, kk⟩; have K3 := Lib.hid (K2.out.trans kk); clear kk
  go_wp2_with fail; refine (DB.out _ K3.out).mono ?_; rintro e w4 ⟨rfl, kk⟩; have K4 := Lib.hid (K3.out.trans kk); clear kk
  go_wp2_with fail; refine (D1.out _ K4.out).mono ?_; rintro e wd ⟨rfl, kk⟩; have Kd := Lib.hid (K4.out.trans kk); clear kk
  go_wp2_with fail
  refine (C5.out _ Kd.out).mono ?_
  rintro e w8 ⟨v8, rfl, hh, kk⟩
  have K8 := Lib.hid (Kd.out.trans kk)
  obtain ⟨ad8, c8, rfl⟩ := hh.slice
  have HR := Lib.hid hh
  clear kk hh
  go_wp2
  go_loopw [13] (fun i wr => ∃ k : Nat, k ≤ L.length ∧ i = .int .i64 k ∧ Hid (Kp w8 wr)) (fun i _ => L.length - (intOf i).toNat)
  case atStart => exact ⟨0, by omega, rfl, Lib.hid (Kp.refl _)⟩
  case round =>
    obtain ⟨k, hk, rfl, K9⟩ := hrel
    by_cases hlt : k < L.length
    · rcases HR.out with ⟨_, _, _, e⟩ | ⟨b0, off, cap, ev, hc, hm, hx⟩
      · rw [e] at hlt; simp at hlt
      cases ev
      obtain ⟨d1, d2⟩ := rd_at hx K9.out k hlt
      clear hx
      have MA := Lib.hid (mem_at S2.out hlt)
      obtain ⟨o1, _, _⟩ := sane_ok S2.out _ (at_mem hlt)
      obtain ⟨lo, hi', ee⟩ : ∃ x y, at_ L k = (x, y) := ⟨_, _, rfl⟩
      rw [ee] at d1 d2 MA o1
      simp only at d1 d2 MA o1
      clear ee
      have z1 : (0 : Int) ≤ (k : Int) := by omega
      have z2 : (k : Int) < L.length := by omega
      have h1 := (HX.out.hno rfl).2 _ MA.out.2
      have h2 := (HX.out.his rfl).2.2 _ MA.out.2 (by omega)
      have q1 : decide (n ≤ hi') = false := decide_eq_false (by omega)
      have q2 : decide (lo ≤ n) = true := decide_eq_true (by omega)
      have m2 : decide (b < min hi' n) = false := decide_eq_false (by omega)
      have m3 : ¬ b < min hi' n := by omega
      go_wp2
      go_roundw
      case rel => exact ⟨k + 1, by omega, by go_num, K9⟩
      case measure => simp [intOf]; omega
    · have q0 : decide ((k : Int) < L.length) = false := by simp; omega
      go_wp2
      go_ret
      exact ⟨rfl, K8.out.trans K9.out⟩
set_option maxHeartbeats 4000000 in
set_option maxRecDepth 100000 in
theorem next_tf (ad : Option Addr) (c : Nat) (l L : List R) (n a b : Int) (w : World) (hl40 : l.length ≤ 40) (hS : sane L) (hL : L.length ≤ 40) (b1 : -9223372036854775808 ≤ n) (b2 : n ≤ 9223372036854775807)
    (CN : ∀ w1, Kp w w1 → Calls Try.prog 22 #[.slice ad l.length c, .int .i64 n] w1 fun e w' => e = .returned (.tuple #[.int .i64 a, .bool true]) ∧ Kp w1 w')
    (CP : ∀ w1, Kp w w1 → Calls Try.prog 24 #[.slice ad l.length c, .int .i64 n] w1 fun e w' => e = .returned (.tuple #[.int .i64 b, .bool false]) ∧ Kp w1 w')
    (CP2 : ∀ x w1, Kp w w1 → -9223372036854775808 ≤ x → x ≤ 9223372036854775807 → Calls Try.prog 24 #[.slice ad l.length c, .int .i64 x] w1 fun e w' => e = .returned (.tuple #[.int .i64 (prv L x).1, .bool (prv L x).2]) ∧ Kp w1 w')
    (CH : ∀ x w1, Kp w w1 → -9223372036854775808 ≤ x → x ≤ 9223372036854775807 → Calls Try.prog 33 #[.slice ad l.length c, .int .i64 x] w1 fun e w' => e = .returned (.bool (hasB L x)) ∧ Kp w1 w')
    (CM : ∀ w1, Kp w w1 → Calls Try.prog 29 #[.slice ad l.length c] w1 fun e w' => ∃ v', e = .returned v' ∧ RunsAt w' v' L ∧ Kp w1 w')
    (X : NX L n a b true false) (hn : n < a) :
    Calls Try.prog 6 #[.slice ad l.length c, .int .i64 n] w fun e w' => e = .returned (.bool true) ∧ Kp w w' := by
  have g40 : decide ((40 : Int) < l.length) = false := decide_eq_false (by omega)
  have g40' : ¬ (40 : Int) < l.length := by omega
  have S2 := Lib.hid hS
  have A0 := Lib.hid awake04
  have C1 := Lib.hid CN
  have C2 := Lib.hid CP
  have C3 := Lib.hid CP2
  have C4 := Lib.hid CH
  have C5 := Lib.hid CM
  have HX := Lib.hid X
  clear CN CP CP2 CH CM hS X
  have MA0 := Lib.hid (HX.out.hok rfl).2.1
  have ma := mem_bd MA0.out
  have DA := Lib.hid (fun w1 (k : Kp w w1) => C4.out a w1 k (by omega) (by omega))
  rw [(hasB_sane S2.out a).2 MA0.out] at DA
  have qa : decide (a < n) = false := decide_eq_false (by omega)
  have qa2 : decide (n < a) = true := decide_eq_true (by omega)
  have wa : IntKind.i64.wrap (a - 1) = a - 1 := by rw [IntKind.wrap_i64]; omega
  have DP := Lib.hid (fun w1 (k : Kp w w1) => C3.out (a - 1) w1 k (by omega) (by omega))
  have PC : ¬ ((prv L (a - 1)).2 = true ∧ n ≤ (prv L (a - 1)).1) := by
    rintro ⟨h1, h2⟩
    rcases prv_spec L (a - 1) S2.out with ⟨e, _⟩ | ⟨x, e, g1, g2, _⟩
    · rw [e] at h1; cases h1
    · rw [e] at h2
      have := (HX.out.hok rfl).2.2 x g2 h2
      omega
  obtain ⟨pc, ph, epp⟩ : ∃ x y, prv L (a - 1) = (x, y) := ⟨_, _, rfl⟩
  rw [epp] at PC DP
  simp only at PC DP
  clear epp
  obtain rfl : b = 0 := (HX.out.hio rfl).1
  have NN : Hid (¬ memR L n) := Lib.hid (fun g => by have := (HX.out.hok rfl).2.2 n g (Int.le_refl _); omega)
  have D1 := Lib.hid (fun w1 (k : Kp w w1) => C4.out n w1 k b1 b2)
  rw [hasB_no S2.out NN.out] at D1
  go_enter Try.func6, Try.ntmps6
  go_wp2_with fail
  refine (A0.out _).mono ?_
  rintro e w1 ⟨rfl, kk⟩
  have K1 := Lib.hid kk
  clear kk
  go_wp2_with fail; refine (C1.out _ K1.out).mono ?_; rintro e w2 ⟨rfl, kk⟩; have K2 := Lib.hid (K1.out.trans kk); clear kk
  go_wp2_with fail; refine (C2.out _ K2.out).mono ?_; rintro e w3 ⟨rfl, kk⟩; have K3 := Lib.hid (K2.out.trans kk); clear kk
  go_wp2_with fail; refine (DA.out _ K3.out).mono ?_; rintro e w4 ⟨rfl, kk⟩; have K4 := Lib.hid (K3.out.trans kk); clear kk
  go_wp2_with fail; refine (DP.out _ K4.out).mono ?_; rintro e wp ⟨rfl, kk⟩; have Kq := Lib.hid (K4.out.trans kk); clear kk
  cases ph with
  | false =>
    go_wp2_with fail; refine (D1.out _ Kq.out).mono ?_; rintro e wd ⟨rfl, kk⟩; have Kd := Lib.hid (Kq.out.trans kk); clear kk
    go_wp2_with fail
    refine (C5.out _ Kd.out).mono ?_
    rintro e w8 ⟨v8, rfl, hh, kk⟩
    have K8 := Lib.hid (Kd.out.trans kk)
    obtain ⟨ad8, c8, rfl⟩ := hh.slice
    have HR := Lib.hid hh
    clear kk hh
    go_wp2
    go_loopw [13] (fun i wr => ∃ k : Nat, k ≤ L.length ∧ i = .int .i64 k ∧ Hid (Kp w8 wr)) (fun i _ => L.length - (intOf i).toNat)
    case atStart => exact ⟨0, by omega, rfl, Lib.hid (Kp.refl _)⟩
    case round =>
      obtain ⟨k, hk, rfl, K9⟩ := hrel
      by_cases hlt : k < L.length
      · rcases HR.out with ⟨_, _, _, e⟩ | ⟨b0, off, cap, ev, hc, hm, hx⟩
        · rw [e] at hlt; simp at hlt
        cases ev
        obtain ⟨d1, d2⟩ := rd_at hx K9.out k hlt
        clear hx
        have MA := Lib.hid (mem_at S2.out hlt)
        obtain ⟨o1, _, _⟩ := sane_ok S2.out _ (at_mem hlt)
        obtain ⟨lo, hi', ee⟩ : ∃ x y, at_ L k = (x, y) := ⟨_, _, rfl⟩
        rw [ee] at d1 d2 MA o1
        simp only at d1 d2 MA o1
        clear ee
        have z1 : (0 : Int) ≤ (k : Int) := by omega
        have z2 : (k : Int) < L.length := by omega
        have h1 := (HX.out.hio rfl).2 _ MA.out.1
        have h2 := (HX.out.hok rfl).2.2 _ MA.out.1 (by omega)
        have q1 : decide (n ≤ hi') = true := decide_eq_true (by omega)
        have q2 : decide (lo ≤ n) = false := decide_eq_false (by omega)
        have m2 : decide (max lo n < a) = false := decide_eq_false (by omega)
        have m3 : ¬ max lo n < a := by omega
        go_wp2
        go_roundw
        case rel => exact ⟨k + 1, by omega, by go_num, K9⟩
        case measure => simp [intOf]; omega
      · have q0 : decide ((k : Int) < L.length) = false := by simp; omega
        go_wp2
        go_ret
        exact ⟨rfl, K8.out.trans K9.out⟩
  | true =>
    have pq : decide (n ≤ pc) = false := decide_eq_false (fun g => PC ⟨rfl, g⟩)
    have pq' : ¬ n ≤ pc := fun g => PC ⟨rfl, g⟩
    clear PC
    go_wp2_with fail; refine (D1.out _ Kq.out).mono ?_; rintro e wd ⟨rfl, kk⟩; have Kd := Lib.hid (Kq.out.trans kk); clear kk
    go_wp2_with fail
    refine (C5.out _ Kd.out).mono ?_
    rintro e w8 ⟨v8, rfl, hh, kk⟩
    have K8 := Lib.hid (Kd.out.trans kk)
    obtain ⟨ad8, c8, rfl⟩ := hh.slice
    have HR := Lib.hid hh
    clear kk hh
    go_wp2
    go_loopw [13] (fun i wr => ∃ k : Nat, k ≤ L.length ∧ i = .int .i64 k ∧ Hid (Kp w8 wr)) (fun i _ => L.length - (intOf i).toNat)
    case atStart => exact ⟨0, by omega, rfl, Lib.hid (Kp.refl _)⟩
    case round =>
      obtain ⟨k, hk, rfl, K9⟩ := hrel
      by_cases hlt : k < L.length
      · rcases HR.out with ⟨_, _, _, e⟩ | ⟨b0, off, cap, ev, hc, hm, hx⟩
        · rw [e] at hlt; simp at hlt
        cases ev
        obtain ⟨d1, d2⟩ := rd_at hx K9.out k hlt
        clear hx
        have MA := Lib.hid (mem_at S2.out hlt)
        obtain ⟨o1, _, _⟩ := sane_ok S2.out _ (at_mem hlt)
        obtain ⟨lo, hi', ee⟩ : ∃ x y, at_ L k = (x, y) := ⟨_, _, rfl⟩
        rw [ee] at d1 d2 MA o1
        simp only at d1 d2 MA o1
        clear ee
        have z1 : (0 : Int) ≤ (k : Int) := by omega
        have z2 : (k : Int) < L.length := by omega
        have h1 := (HX.out.hio rfl).2 _ MA.out.1
        have h2 := (HX.out.hok rfl).2.2 _ MA.out.1 (by omega)
        have q1 : decide (n ≤ hi') = true := decide_eq_true (by omega)
        have q2 : decide (lo ≤ n) = false := decide_eq_false (by omega)
        have m2 : decide (max lo n < a) = false := decide_eq_false (by omega)
        have m3 : ¬ max lo n < a := by omega
        go_wp2
        go_roundw
        case rel => exact ⟨k + 1, by omega, by go_num, K9⟩
        case measure => simp [intOf]; omega
      · have q0 : decide ((k : Int) < L.length) = false := by simp; omega
        go_wp2
        go_ret
        exact ⟨rfl, K8.out.trans K9.out⟩
set_option maxHeartbeats 4000000 in
set_option maxRecDepth 100000 in
theorem next_tt (ad : Option Addr) (c : Nat) (l L : List R) (n a b : Int) (w : World) (hl40 : l.length ≤ 40) (hS : sane L) (hL : L.length ≤ 40) (b1 : -9223372036854775808 ≤ n) (b2 : n ≤ 9223372036854775807)
    (CN : ∀ w1, Kp w w1 → Calls Try.prog 22 #[.slice ad l.length c, .int .i64 n] w1 fun e w' => e = .returned (.tuple #[.int .i64 a, .bool true]) ∧ Kp w1 w')
    (CP : ∀ w1, Kp w w1 → Calls Try.prog 24 #[.slice ad l.length c, .int .i64 n] w1 fun e w' => e = .returned (.tuple #[.int .i64 b, .bool true]) ∧ Kp w1 w')
    (CP2 : ∀ x w1, Kp w w1 → -9223372036854775808 ≤ x → x ≤ 9223372036854775807 → Calls Try.prog 24 #[.slice ad l.length c, .int .i64 x] w1 fun e w' => e = .returned (.tuple #[.int .i64 (prv L x).1, .bool (prv L x).2]) ∧ Kp w1 w')
    (CH : ∀ x w1, Kp w w1 → -9223372036854775808 ≤ x → x ≤ 9223372036854775807 → Calls Try.prog 33 #[.slice ad l.length c, .int .i64 x] w1 fun e w' => e = .returned (.bool (hasB L x)) ∧ Kp w1 w')
    (CM : ∀ w1, Kp w w1 → Calls Try.prog 29 #[.slice ad l.length c] w1 fun e w' => ∃ v', e = .returned v' ∧ RunsAt w' v' L ∧ Kp w1 w')
    (X : NX L n a b true true) (hn : n < a) (hb : b < n) :
    Calls Try.prog 6 #[.slice ad l.length c, .int .i64 n] w fun e w' => e = .returned (.bool true) ∧ Kp w w' := by
  have g40 : decide ((40 : Int) < l.length) = false := decide_eq_false (by omega)
  have g40' : ¬ (40 : Int) < l.length := by omega
  have S2 := Lib.hid hS
  have A0 := Lib.hid awake04
  have C1 := Lib.hid CN
  have C2 := Lib.hid CP
  have C3 := Lib.hid CP2
  have C4 := Lib.hid CH
  have C5 := Lib.hid CM
  have HX := Lib.hid X
  clear CN CP CP2 CH CM hS X
  have MA0 := Lib.hid (HX.out.hok rfl).2.1
  have ma := mem_bd MA0.out
  have DA := Lib.hid (fun w1 (k : Kp w w1) => C4.out a w1 k (by omega) (by omega))
  rw [(hasB_sane S2.out a).2 MA0.out] at DA
  have qa : decide (a < n) = false := decide_eq_false (by omega)
  have qa2 : decide (n < a) = true := decide_eq_true (by omega)
  have wa : IntKind.i64.wrap (a - 1) = a - 1 := by rw [IntKind.wrap_i64]; omega
  have DP := Lib.hid (fun w1 (k : Kp w w1) => C3.out (a - 1) w1 k (by omega) (by omega))
  have PC : ¬ ((prv L (a - 1)).2 = true ∧ n ≤ (prv L (a - 1)).1) := by
    rintro ⟨h1, h2⟩
    rcases prv_spec L (a - 1) S2.out with ⟨e, _⟩ | ⟨x, e, g1, g2, _⟩
    · rw [e] at h1; cases h1
    · rw [e] at h2
      have := (HX.out.hok rfl).2.2 x g2 h2
      omega
  obtain ⟨pc, ph, epp⟩ : ∃ x y, prv L (a - 1) = (x, y) := ⟨_, _, rfl⟩
  rw [epp] at PC DP
  simp only at PC DP
  clear epp
  have MB0 := Lib.hid (HX.out.his rfl).2.1
  have mb := mem_bd MB0.out
  have DB := Lib.hid (fun w1 (k : Kp w w1) => C4.out b w1 k (by omega) (by omega))
  rw [(hasB_sane S2.out b).2 MB0.out] at DB
  have qb : decide (n < b) = false := decide_eq_false (by omega)
  have NN : Hid (¬ memR L n) := Lib.hid (fun g => by have := (HX.out.hok rfl).2.2 n g (Int.le_refl _); omega)
  have D1 := Lib.hid (fun w1 (k : Kp w w1) => C4.out n w1 k b1 b2)
  rw [hasB_no S2.out NN.out] at D1
  go_enter Try.func6, Try.ntmps6
  go_wp2_with fail
  refine (A0.out _).mono ?_
  rintro e w1 ⟨rfl, kk⟩
  have K1 := Lib.hid kk
  clear kk
  go_wp2_with fail; refine (C1.out _ K1.out).mono ?_; rintro e w2 ⟨rfl, kk⟩; have K2 := Lib.hid (K1.out.trans kk); clear kk
  go_wp2_with fail; refine (C2.out _ K2.out).mono ?_; rintro e w3 ⟨rfl, kk⟩; have K3 := Lib.hid (K2.out.trans kk); clear kk
  go_wp2_with fail; refine (DA.out _ K3.out).mono ?_; rintro e w4 ⟨rfl, kk⟩; have K4 := Lib.hid (K3.out.trans kk); clear kk
  go_wp2_with fail; refine (DB.out _ K4.out).mono ?_; rintro e w5 ⟨rfl, kk⟩; have K5 := Lib.hid (K4.out.trans kk); clear kk
  go_wp2_with fail; refine (DP.out _ K5.out).mono ?_; rintro e wp ⟨rfl, kk⟩; have Kq := Lib.hid (K5.out.trans kk); clear kk
  cases ph with
  | false =>
    go_wp2_with fail; refine (D1.out _ Kq.out).mono ?_; rintro e wd ⟨rfl, kk⟩; have Kd := Lib.hid (Kq.out.trans kk); clear kk
    go_wp2_with fail
    refine (C5.out _ Kd.out).mono ?_
    rintro e w8 ⟨v8, rfl, hh, kk⟩
    have K8 := Lib.hid (Kd.out.trans kk)
    obtain ⟨ad8, c8, rfl⟩ := hh.slice
    have HR := Lib.hid hh
    clear kk hh
    go_wp2
    go_loopw [13] (fun i wr => ∃ k : Nat, k ≤ L.length ∧ i = .int .i64 k ∧ Hid (Kp w8 wr)) (fun i _ => L.length - (intOf i).toNat)
    case atStart => exact ⟨0, by omega, rfl, Lib.hid (Kp.refl _)⟩
    case round =>
      obtain ⟨k, hk, rfl, K9⟩ := hrel
      by_cases hlt : k < L.length
      · rcases HR.out with ⟨_, _, _, e⟩ | ⟨b0, off, cap, ev, hc, hm, hx⟩
        · rw [e] at hlt; simp at hlt
        cases ev
        obtain ⟨d1, d2⟩ := rd_at hx K9.out k hlt
        clear hx
        have MA := Lib.hid (mem_at S2.out hlt)
        obtain ⟨o1, _, _⟩ := sane_ok S2.out _ (at_mem hlt)
        obtain ⟨lo, hi', ee⟩ : ∃ x y, at_ L k = (x, y) := ⟨_, _, rfl⟩
        rw [ee] at d1 d2 MA o1
        simp only at d1 d2 MA o1
        have EE := Lib.hid ee
        clear ee
        have z1 : (0 : Int) ≤ (k : Int) := by omega
        have z2 : (k : Int) < L.length := by omega
        have cs : hi' < n ∨ n < lo := by
          rcases Int.lt_or_le hi' n with g | g
          · exact .inl g
          · rcases Int.lt_or_le n lo with g2 | g2
            · exact .inr g2
            · exact absurd (show memR L n from by
                have := MA.out
                have e1 := mem_bd this.1
                have e2 := mem_bd this.2
                exact ⟨at_ L k, at_mem hlt, by rw [EE.out]; exact g2, by rw [EE.out]; exact g, by omega, by omega⟩) NN.out
        rcases cs with g | g
        · have h2 := (HX.out.his rfl).2.2 _ MA.out.2 (by omega)
          have q1 : decide (n ≤ hi') = false := decide_eq_false (by omega)
          have q2 : decide (lo ≤ n) = true := decide_eq_true (by omega)
          have m2 : decide (b < min hi' n) = false := decide_eq_false (by omega)
          have m3 : ¬ b < min hi' n := by omega
          go_wp2
          go_roundw
          case rel => exact ⟨k + 1, by omega, by go_num, K9⟩
          case measure => simp [intOf]; omega
        · have h2 := (HX.out.hok rfl).2.2 _ MA.out.1 (by omega)
          have q1 : decide (n ≤ hi') = true := decide_eq_true (by omega)
          have q2 : decide (lo ≤ n) = false := decide_eq_false (by omega)
          have m2 : decide (max lo n < a) = false := decide_eq_false (by omega)
          have m3 : ¬ max lo n < a := by omega
          go_wp2
          go_roundw
          case rel => exact ⟨k + 1, by omega, by go_num, K9⟩
          case measure => simp [intOf]; omega
      · have q0 : decide ((k : Int) < L.length) = false := by simp; omega
        go_wp2
        go_ret
        exact ⟨rfl, K8.out.trans K9.out⟩
  | true =>
    have pq : decide (n ≤ pc) = false := decide_eq_false (fun g => PC ⟨rfl, g⟩)
    have pq' : ¬ n ≤ pc := fun g => PC ⟨rfl, g⟩
    clear PC
    go_wp2_with fail; refine (D1.out _ Kq.out).mono ?_; rintro e wd ⟨rfl, kk⟩; have Kd := Lib.hid (Kq.out.trans kk); clear kk
    go_wp2_with fail
    refine (C5.out _ Kd.out).mono ?_
    rintro e w8 ⟨v8, rfl, hh, kk⟩
    have K8 := Lib.hid (Kd.out.trans kk)
    obtain ⟨ad8, c8, rfl⟩ := hh.slice
    have HR := Lib.hid hh
    clear kk hh
    go_wp2
    go_loopw [13] (fun i wr => ∃ k : Nat, k ≤ L.length ∧ i = .int .i64 k ∧ Hid (Kp w8 wr)) (fun i _ => L.length - (intOf i).toNat)
    case atStart => exact ⟨0, by omega, rfl, Lib.hid (Kp.refl _)⟩
    case round =>
      obtain ⟨k, hk, rfl, K9⟩ := hrel
      by_cases hlt : k < L.length
      · rcases HR.out with ⟨_, _, _, e⟩ | ⟨b0, off, cap, ev, hc, hm, hx⟩
        · rw [e] at hlt; simp at hlt
        cases ev
        obtain ⟨d1, d2⟩ := rd_at hx K9.out k hlt
        clear hx
        have MA := Lib.hid (mem_at S2.out hlt)
        obtain ⟨o1, _, _⟩ := sane_ok S2.out _ (at_mem hlt)
        obtain ⟨lo, hi', ee⟩ : ∃ x y, at_ L k = (x, y) := ⟨_, _, rfl⟩
        rw [ee] at d1 d2 MA o1
        simp only at d1 d2 MA o1
        have EE := Lib.hid ee
        clear ee
        have z1 : (0 : Int) ≤ (k : Int) := by omega
        have z2 : (k : Int) < L.length := by omega
        have cs : hi' < n ∨ n < lo := by
          rcases Int.lt_or_le hi' n with g | g
          · exact .inl g
          · rcases Int.lt_or_le n lo with g2 | g2
            · exact .inr g2
            · exact absurd (show memR L n from by
                have := MA.out
                have e1 := mem_bd this.1
                have e2 := mem_bd this.2
                exact ⟨at_ L k, at_mem hlt, by rw [EE.out]; exact g2, by rw [EE.out]; exact g, by omega, by omega⟩) NN.out
        rcases cs with g | g
        · have h2 := (HX.out.his rfl).2.2 _ MA.out.2 (by omega)
          have q1 : decide (n ≤ hi') = false := decide_eq_false (by omega)
          have q2 : decide (lo ≤ n) = true := decide_eq_true (by omega)
          have m2 : decide (b < min hi' n) = false := decide_eq_false (by omega)
          have m3 : ¬ b < min hi' n := by omega
          go_wp2
          go_roundw
          case rel => exact ⟨k + 1, by omega, by go_num, K9⟩
          case measure => simp [intOf]; omega
        · have h2 := (HX.out.hok rfl).2.2 _ MA.out.1 (by omega)
          have q1 : decide (n ≤ hi') = true := decide_eq_true (by omega)
          have q2 : decide (lo ≤ n) = false := decide_eq_false (by omega)
          have m2 : decide (max lo n < a) = false := decide_eq_false (by omega)
          have m3 : ¬ max lo n < a := by omega
          go_wp2
          go_roundw
          case rel => exact ⟨k + 1, by omega, by go_num, K9⟩
          case measure => simp [intOf]; omega
      · have q0 : decide ((k : Int) < L.length) = false := by simp; omega
        go_wp2
        go_ret
        exact ⟨rfl, K8.out.trans K9.out⟩
set_option maxHeartbeats 4000000 in
set_option maxRecDepth 100000 in
theorem next_eq (ad : Option Addr) (c : Nat) (l L : List R) (n a b : Int) (w : World) (hl40 : l.length ≤ 40) (hS : sane L) (hL : L.length ≤ 40) (b1 : -9223372036854775808 ≤ n) (b2 : n ≤ 9223372036854775807)
    (CN : ∀ w1, Kp w w1 → Calls Try.prog 22 #[.slice ad l.length c, .int .i64 n] w1 fun e w' => e = .returned (.tuple #[.int .i64 a, .bool true]) ∧ Kp w1 w')
    (CP : ∀ w1, Kp w w1 → Calls Try.prog 24 #[.slice ad l.length c, .int .i64 n] w1 fun e w' => e = .returned (.tuple #[.int .i64 b, .bool true]) ∧ Kp w1 w')
    (CP2 : ∀ x w1, Kp w w1 → -9223372036854775808 ≤ x → x ≤ 9223372036854775807 → Calls Try.prog 24 #[.slice ad l.length c, .int .i64 x] w1 fun e w' => e = .returned (.tuple #[.int .i64 (prv L x).1, .bool (prv L x).2]) ∧ Kp w1 w')
    (CH : ∀ x w1, Kp w w1 → -9223372036854775808 ≤ x → x ≤ 9223372036854775807 → Calls Try.prog 33 #[.slice ad l.length c, .int .i64 x] w1 fun e w' => e = .returned (.bool (hasB L x)) ∧ Kp w1 w')
    (CM : ∀ w1, Kp w w1 → Calls Try.prog 29 #[.slice ad l.length c] w1 fun e w' => ∃ v', e = .returned v' ∧ RunsAt w' v' L ∧ Kp w1 w')
    (X : NX L n a b true true) (hn : a = n) (hb : b = n) :
    Calls Try.prog 6 #[.slice ad l.length c, .int .i64 n] w fun e w' => e = .returned (.bool true) ∧ Kp w w' := by
  have g40 : decide ((40 : Int) < l.length) = false := decide_eq_false (by omega)
  have g40' : ¬ (40 : Int) < l.length := by omega
  have S2 := Lib.hid hS
  have A0 := Lib.hid awake04
  have C1 := Lib.hid CN
  have C2 := Lib.hid CP
  have C3 := Lib.hid CP2
  have C4 := Lib.hid CH
  have C5 := Lib.hid CM
  have HX := Lib.hid X
  clear CN CP CP2 CH CM hS X
  have HNB := Lib.hid (And.intro hn hb)
  clear hn hb
  obtain ⟨rfl, rfl⟩ := HNB.out
  have MN := Lib.hid (HX.out.hok rfl).2.1
  have mb := mem_bd MN.out
  have hA := Lib.hid ((hasB_sane S2.out b).2 MN.out)
  have D1 := Lib.hid (fun w1 (k : Kp w w1) => C4.out b w1 k b1 b2)
  rw [hA.out] at D1
  go_enter Try.func6, Try.ntmps6
  go_wp2_with fail
  refine (A0.out _).mono ?_
  rintro e w1 ⟨rfl, kk⟩
  have K1 := Lib.hid kk
  clear kk
  go_wp2_with fail; refine (C1.out _ K1.out).mono ?_; rintro e w2 ⟨rfl, kk⟩; have K2 := Lib.hid (K1.out.trans kk); clear kk
  go_wp2_with fail; refine (C2.out _ K2.out).mono ?_; rintro e w3 ⟨rfl, kk⟩; have K3 := Lib.hid (K2.out.trans kk); clear kk
  go_wp2_with fail; refine (D1.out _ K3.out).mono ?_; rintro e w4 ⟨rfl, kk⟩; have K4 := Lib.hid (K3.out.trans kk); clear kk
  go_wp2_with fail; refine (D1.out _ K4.out).mono ?_; rintro e w5 ⟨rfl, kk⟩; have K5 := Lib.hid (K4.out.trans kk); clear kk
  go_wp2_with fail; refine (D1.out _ K5.out).mono ?_; rintro e w6 ⟨rfl, kk⟩; have K6 := Lib.hid (K5.out.trans kk); clear kk
  go_wp2_with fail
  refine (C5.out _ K6.out).mono ?_
  rintro e w8 ⟨v8, rfl, hh, kk⟩
  have K8 := Lib.hid (K6.out.trans kk)
  obtain ⟨ad8, c8, rfl⟩ := hh.slice
  have HR := Lib.hid hh
  clear kk hh
  go_wp2
  go_loopw [13] (fun i wr => ∃ k : Nat, k ≤ L.length ∧ i = .int .i64 k ∧ Hid (Kp w8 wr)) (fun i _ => L.length - (intOf i).toNat)
  case atStart => exact ⟨0, by omega, rfl, Lib.hid (Kp.refl _)⟩
  case round =>
    obtain ⟨k, hk, rfl, K9⟩ := hrel
    by_cases hlt : k < L.length
    · rcases HR.out with ⟨_, _, _, e⟩ | ⟨b0, off, cap, ev, hc, hm, hx⟩
      · rw [e] at hlt; simp at hlt
      cases ev
      obtain ⟨d1, d2⟩ := rd_at hx K9.out k hlt
      clear hx
      have MA := Lib.hid (mem_at S2.out hlt)
      obtain ⟨o1, _, _⟩ := sane_ok S2.out _ (at_mem hlt)
      obtain ⟨lo, hi', ee⟩ : ∃ x y, at_ L k = (x, y) := ⟨_, _, rfl⟩
      rw [ee] at d1 d2 MA o1
      simp only at d1 d2 MA o1
      clear ee
      have z1 : (0 : Int) ≤ (k : Int) := by omega
      have z2 : (k : Int) < L.length := by omega
      by_cases h1 : b ≤ hi'
      · have q1 : decide (b ≤ hi') = true := decide_eq_true h1
        have m1 : decide (max lo b < b) = false := decide_eq_false (by omega)
        by_cases h2 : lo ≤ b
        · have q2 : decide (lo ≤ b) = true := decide_eq_true h2
          have m2 : decide (b < min hi' b) = false := decide_eq_false (by omega)
          have m3 : ¬ b < min hi' b := by omega
          have m4 : ¬ max lo b < b := by omega
          go_wp2
          go_roundw
          case rel => exact ⟨k + 1, by omega, by go_num, K9⟩
          case measure => simp [intOf]; omega
        · have q2 : decide (lo ≤ b) = false := decide_eq_false h2
          have m4 : ¬ max lo b < b := by omega
          go_wp2
          go_roundw
          case rel => exact ⟨k + 1, by omega, by go_num, K9⟩
          case measure => simp [intOf]; omega
      · have q1 : decide (b ≤ hi') = false := decide_eq_false h1
        have q2 : decide (lo ≤ b) = true := decide_eq_true (by omega)
        have m2 : decide (b < min hi' b) = false := decide_eq_false (by omega)
        have m3 : ¬ b < min hi' b := by omega
        go_wp2
        go_roundw
        case rel => exact ⟨k + 1, by omega, by go_num, K9⟩
        case measure => simp [intOf]; omega
    · have q0 : decide ((k : Int) < L.length) = false := by simp; omega
      go_wp2
      go_ret
      exact ⟨rfl, K8.out.trans K9.out⟩
set_option maxHeartbeats 4000000 in
set_option maxRecDepth 100000 in
theorem runsNext_walk (v : Value) (l : List R) (n : Int) (w : World) (hv : RunsAt w v l) (hl : I64R l) (b1 : -9223372036854775808 ≤ n) (b2 : n ≤ 9223372036854775807) :
    Calls Try.prog 6 #[v, .int .i64 n] w fun e w' => e = .returned (.bool true) ∧ Kp w w' := by
  obtain ⟨ad, c, rfl⟩ := hv.slice
  by_cases h40 : l.length ≤ 40
  · have S2 := nf_sane l
    have nl := nf_len l
    have A1 := fun w1 (k : Kp w w1) => asS_any (.slice ad l.length c) l w1 (hv.kp k) hl (by omega)
    have CN := fun w1 (k : Kp w w1) => next_of ad l.length c (nf l) n w1 (A1 w1 k) S2 (by omega) b1 b2
    have CP2 := fun x w1 (k : Kp w w1) (h1 : -9223372036854775808 ≤ x) (h2 : x ≤ 9223372036854775807) => prev_of ad l.length c (nf l) x w1 (A1 w1 k) S2 (by omega) h1 h2
    have CP := fun w1 (k : Kp w w1) => CP2 n w1 k b1 b2
    have CH := fun x w1 (k : Kp w w1) (h1 : -9223372036854775808 ≤ x) (h2 : x ≤ 9223372036854775807) => has_of ad l.length c (nf l) x w1 (A1 w1 k) S2 (by omega) h1 h2
    have CM := fun w1 (k : Kp w w1) => (make_any (.slice ad l.length c) l w1 (hv.kp k) hl (by omega)).mono fun e w' ⟨v', e1, own, kk⟩ => (show ∃ v', e = Ending.returned v' ∧ RunsAt w' v' (nf l) ∧ Kp w1 w' from ⟨v', e1, runsAt_own own, kk⟩)
    rcases nxt_spec (nf l) n S2 with ⟨e1, n1⟩ | ⟨a, e1, n1, n2, n3⟩
    · rw [e1] at CN
      rcases prv_spec (nf l) n S2 with ⟨e2, p1⟩ | ⟨b, e2, p1, p2, p3⟩
      · rw [e2] at CP
        exact next_ff ad c l (nf l) n 0 0 w h40 S2 (by omega) b1 b2 CN CP CP2 CH CM ⟨fun h => absurd h Bool.false_ne_true, fun _ => ⟨rfl, n1⟩, fun h => absurd h Bool.false_ne_true, fun _ => ⟨rfl, p1⟩⟩
      · rw [e2] at CP
        have := n1 b p2
        exact next_ft ad c l (nf l) n 0 b w h40 S2 (by omega) b1 b2 CN CP CP2 CH CM ⟨fun h => absurd h Bool.false_ne_true, fun _ => ⟨rfl, n1⟩, fun _ => ⟨p1, p2, p3⟩, fun h => absurd h.symm Bool.false_ne_true⟩ this
    · rw [e1] at CN
      rcases prv_spec (nf l) n S2 with ⟨e2, p1⟩ | ⟨b, e2, p1, p2, p3⟩
      · rw [e2] at CP
        have := p1 a n2
        exact next_tf ad c l (nf l) n a 0 w h40 S2 (by omega) b1 b2 CN CP CP2 CH CM ⟨fun _ => ⟨n1, n2, n3⟩, fun h => absurd h.symm Bool.false_ne_true, fun h => absurd h Bool.false_ne_true, fun _ => ⟨rfl, p1⟩⟩ this
      · rw [e2] at CP
        have X : NX (nf l) n a b true true := ⟨fun _ => ⟨n1, n2, n3⟩, fun h => absurd h.symm Bool.false_ne_true, fun _ => ⟨p1, p2, p3⟩, fun h => absurd h.symm Bool.false_ne_true⟩
        by_cases q : a = n
        · have : b = n := by have := p3 a n2 (by omega); omega
          exact next_eq ad c l (nf l) n a b w h40 S2 (by omega) b1 b2 CN CP CP2 CH CM X q this
        · have h2 : b < n := by
            rcases Int.lt_or_le b n with g | g
            · exact g
            · have := n3 b p2 g; omega
          exact next_tt ad c l (nf l) n a b w h40 S2 (by omega) b1 b2 CN CP CP2 CH CM X (by omega) h2
  · have g40 : decide ((40 : Int) < l.length) = true := decide_eq_true (by omega)
    have g40' : (40 : Int) < l.length := by omega
    clear hv
    go_enter Try.func6, Try.ntmps6
    go_wp2_with fail
    refine (awake04 _).mono ?_
    rintro e w1 ⟨rfl, k1⟩
    have K1 := Lib.hid k1
    clear k1
    go_wp2
    go_ret
    exact ⟨rfl, K1.out⟩
end Go.Proofs.Ytgaadakhkjfbnaa
