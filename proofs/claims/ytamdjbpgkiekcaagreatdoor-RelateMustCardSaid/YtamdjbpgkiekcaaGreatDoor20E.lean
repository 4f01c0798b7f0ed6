import Derived.Test.YtamdjbpgkiekcaaGreatDoor20D
namespace Go.Proofs.YtamdjbpgkiekcaaGreatDoor
open Go.RowKit
set_option linter.unusedVariables false
set_option linter.unusedSimpArgs false
noncomputable def cM (l m : List LF) (t : Nat) : Bool := canB l m ((t : Int) - 1)
def oM (k : Int) (t : Nat) : Bool := decide (k / 2 ^ (t - 1) % 2 = 0)
noncomputable def anyM (l m : List LF) (t : Nat) : Bool := (List.range t).any (cM l m)
noncomputable def outM (l m : List LF) (k : Int) (t : Nat) : Bool := (List.range t).any fun s => cM l m s && oM k s
theorem anyM_next (l m : List LF) (t : Nat) : anyM l m (t + 1) = (anyM l m t || cM l m t) := by unfold anyM; rw [List.range_succ, List.any_append]; simp
theorem outM_next (l m : List LF) (k : Int) (t : Nat) : outM l m k (t + 1) = (outM l m k t || (cM l m t && oM k t)) := by unfold outM; rw [List.range_succ, List.any_append]; simp
theorem canB_bit (l m : List LF) (j : Nat) (hj : j ≤ 12) : canB l m (j : Int) = (relM l m).testBit j := by
 unfold canB
 cases h : relOk l m with
 | false =>
  have : relM l m = 0 := if_neg (by rw [h]; simp)
  rw [this]
  simp
 | true =>
  rw [show invB (j : Int) = true from decide_eq_true (by omega)]
  simp
theorem canB_no (l m : List LF) (r : Int) (h : r < 0 ∨ 12 < r) : canB l m r = false := by
 unfold canB
 rw [show invB r = false from decide_eq_false (by omega)]
 simp
theorem anyM_all (l m : List LF) : anyM l m 15 = decide (relM l m ≠ 0) := by
 unfold anyM
 by_cases h : relM l m = 0
 ·rw [h, List.any_eq_false.2]
  ·rfl
  ·intro s hs
   have := List.mem_range.1 hs
   unfold cM
   by_cases c : (s : Int) - 1 < 0 ∨ 12 < (s : Int) - 1
   ·rw [canB_no _ _ _ c]; simp
   ·obtain ⟨j, rfl⟩ : ∃ j, s = j + 1 := ⟨s - 1, by omega⟩
    rw [show ((j + 1 : Nat) : Int) - 1 = (j : Int) by omega, canB_bit _ _ _ (by omega), h]
    simp
 ·rw [decide_eq_true h, List.any_eq_true]
  obtain ⟨j, hj, hb⟩ : ∃ j, j ≤ 12 ∧ (relM l m).testBit j = true := Classical.byContradiction fun n => h (mask_ext (relM_lt _ _) (by decide) fun r hr => by
   constructor
   ·intro q; exact absurd ⟨r, hr, q⟩ n
   ·intro q; simp at q)
  refine ⟨j + 1, List.mem_range.2 (by omega), ?_⟩
  unfold cM
  rw [show ((j + 1 : Nat) : Int) - 1 = (j : Int) by omega, canB_bit _ _ _ hj]
  exact hb
theorem bits_out {M : Nat} (hM : M < 8192) (k : Int) : bits .andNot .i64 (M : Int) k = 0 ↔ ∀ j, j ≤ 12 → M.testBit j = true → k / 2 ^ j % 2 = 1 := by
 have key : (BitVec.ofInt 64 (M : Int) &&& ~~~ BitVec.ofInt 64 k).toNat = 0 ↔ ∀ j, j ≤ 12 → M.testBit j = true → k / 2 ^ j % 2 = 1 := by
  have bit : ∀ j, j ≤ 12 → ((BitVec.ofInt 64 k).getLsbD j = true ↔ k / 2 ^ j % 2 = 1) := by
   intro j hj
   rw [← BitVec.testBit_toNat, BitVec.toNat_ofInt, Nat.testBit_eq_decide_div_mod_eq, decide_eq_true_iff]
   obtain rfl | rfl | rfl | rfl | rfl | rfl | rfl | rfl | rfl | rfl | rfl | rfl | rfl : j = 0 ∨ j = 1 ∨ j = 2 ∨ j = 3 ∨ j = 4 ∨ j = 5 ∨ j = 6 ∨ j = 7 ∨ j = 8 ∨ j = 9 ∨ j = 10 ∨ j = 11 ∨ j = 12 := by omega
   all_goals (simp only [show ((2 ^ 64 : Nat) : Int) = 18446744073709551616 from rfl, Nat.reducePow, Int.reducePow, Int.pow_zero]; omega)
  have mb : ∀ j, (BitVec.ofInt 64 (M : Int)).getLsbD j = M.testBit j := by
   intro j
   rw [← BitVec.testBit_toNat, BitVec.toNat_ofInt]
   congr 1
   omega
  constructor
  ·intro h j hj hb
   have h2 : BitVec.ofInt 64 (M : Int) &&& ~~~ BitVec.ofInt 64 k = 0#64 := BitVec.eq_of_toNat_eq (by rw [h]; rfl)
   have h3 := congrArg (fun x => x.getLsbD j) h2
   simp only [BitVec.getLsbD_and, BitVec.getLsbD_not, mb, hb, BitVec.getLsbD_zero, Bool.true_and] at h3
   rw [← bit j hj]
   have h4 : decide (j < 64) = true := decide_eq_true (by omega)
   rw [h4] at h3
   simpa using h3
  ·intro h
   have h2 : BitVec.ofInt 64 (M : Int) &&& ~~~ BitVec.ofInt 64 k = 0#64 := by
    apply BitVec.eq_of_getLsbD_eq
    intro j hj
    simp only [BitVec.getLsbD_and, BitVec.getLsbD_not, mb, BitVec.getLsbD_zero]
    by_cases c : j ≤ 12
    ·cases hb : M.testBit j with
     | false => simp
     | true =>
      rw [(bit j c).2 (h j c hb)]
      simp
    ·have : M.testBit j = false := by
      have p : 8192 ≤ 2 ^ j := by
       have : 2 ^ 13 ≤ 2 ^ j := Nat.pow_le_pow_right (by decide) (by omega)
       omega
      exact Nat.testBit_lt_two_pow (by omega)
     rw [this]
     simp
   rw [h2]
   rfl
 have lt : (BitVec.ofInt 64 (M : Int) &&& ~~~ BitVec.ofInt 64 k).toNat < 8192 := by
  rw [BitVec.toNat_and, BitVec.toNat_ofInt]
  have : ((M : Int) % ((2 ^ 64 : Nat) : Int)).toNat = M := by omega
  rw [this]
  exact Nat.lt_of_le_of_lt Nat.and_le_left hM
 rw [← key]
 show IntKind.i64.wrap ((BitVec.ofInt 64 (M : Int) &&& ~~~ BitVec.ofInt 64 k).toNat : Nat) = 0 ↔ _
 generalize (BitVec.ofInt 64 (M : Int) &&& ~~~ BitVec.ofInt 64 k).toNat = z at *
 rw [IntKind.wrap_i64]
 omega
theorem mustM (l m : List LF) (k : Int) : mustB l m k = (anyM l m 15 && !outM l m k 15) := by
 unfold mustB
 rw [anyM_all]
 cases h : relOk l m with
 | false =>
  have : relM l m = 0 := if_neg (by rw [h]; simp)
  rw [this]
  simp
 | true =>
  rw [Bool.true_and]
  congr 1
  have key : bits .andNot .i64 ((relM l m : Nat) : Int) k = 0 ↔ outM l m k 15 = false := by
   rw [bits_out (relM_lt l m) k]
   unfold outM
   rw [List.any_eq_false]
   constructor
   ·intro q s hs
    have := List.mem_range.1 hs
    unfold cM oM
    by_cases c : (s : Int) - 1 < 0 ∨ 12 < (s : Int) - 1
    ·rw [canB_no _ _ _ c]; simp
    ·obtain ⟨j, rfl⟩ : ∃ j, s = j + 1 := ⟨s - 1, by omega⟩
     rw [show ((j + 1 : Nat) : Int) - 1 = (j : Int) by omega, canB_bit _ _ _ (by omega), show j + 1 - 1 = j by omega]
     cases hb : (relM l m).testBit j with
     | false => simp
     | true =>
      rw [q j (by omega) hb]
      simp
   ·intro q j hj hb
    have := q (j + 1) (List.mem_range.2 (by omega))
    unfold cM oM at this
    rw [show ((j + 1 : Nat) : Int) - 1 = (j : Int) by omega, canB_bit _ _ _ hj, hb, show j + 1 - 1 = j by omega] at this
    simp at this
    omega
  cases ho : outM l m k 15 with
  | false => rw [decide_eq_true (key.2 ho)]; rfl
  | true => rw [decide_eq_false (fun e => by rw [key.1 e] at ho; cases ho)]; rfl
theorem t20_not {k : Int} {j : Nat} {q : Bool} (h : oM k (j + 1) = q) : (bits .and .i64 (k / 2 ^ j) 1 == 0) = q := by
 rw [t20_and1, ← h]
 unfold oM
 rw [show j + 1 - 1 = j by omega]
 by_cases e : k / 2 ^ j % 2 = 0 <;> simp [e]
set_option maxHeartbeats 16000000 in
set_option maxRecDepth 100000 in
theorem relateMust_walk (vl : Value) (l : List LF) (vm : Value) (m : List LF) (k : Int) (w : World) (rl : LeavesAt w vl l) (gl : ∀ f ∈ l, LeafG f) (rm : LeavesAt w vm m) (gm : ∀ f ∈ m, LeafG f) (hk1 : -9223372036854775808 ≤ k) (hk2 : k ≤ 9223372036854775807) (T : Tabs20 w) :
  Calls Tryz.prog 8 #[vl, vm, .int .i64 k] w fun e w' => e = .returned (.bool true) ∧ Kp w w' := by
 have CA := Lib.hid (fun w1 (k : Kp w w1) => awake20 w1 (T.kp k))
 have CF := Lib.hid (fun w1 (k : Kp w w1) => few20_any _ l w1 (rl.kp k) gl)
 have CG := Lib.hid (fun w1 (k : Kp w w1) => few20_any _ m w1 (rm.kp k) gm)
 have OKL := Lib.hid (fun h => few20_ok (l := l) h gl)
 have OKM := Lib.hid (fun h => few20_ok (l := m) h gm)
 generalize few20 l = fl at *
 generalize few20 m = fm at *
 obtain ⟨adl, cal, rfl⟩ := rl.slice
 obtain ⟨adm, cam, rfl⟩ := rm.slice
 obtain ⟨W0, hW⟩ : ∃ W0, W0 = w := ⟨_, rfl⟩
 subst hW
 have K00 := Lib.hid (Kp.refl W0)
 have K0 := Lib.hid (Kp.refl W0)
 cases fl with
 | false =>
  clear rl rm T gl gm OKL OKM
  go_enter Tryz.func8, Tryz.ntmps8
  go_wp2_with fail
  refine (CA.out _ (K00.out.trans (by first | with_reducible exact K0.out | with_reducible exact K0.out.trans (Kp.alloc _ _) | with_reducible exact (K0.out.trans (Kp.alloc _ _)).trans (Kp.alloc _ _) | with_reducible exact ((K0.out.trans (Kp.alloc _ _)).trans (Kp.alloc _ _)).trans (Kp.alloc _ _) | with_reducible exact K0.out.trans (Kp.drew _) | with_reducible exact K0.out.trans (Kp.drewN _ _)))).mono ?_
  rintro e w1 ⟨rfl, kk⟩
  have K1 := Lib.hid ((show Kp W0 _ from (by first | with_reducible exact K0.out | with_reducible exact K0.out.trans (Kp.alloc _ _) | with_reducible exact (K0.out.trans (Kp.alloc _ _)).trans (Kp.alloc _ _) | with_reducible exact ((K0.out.trans (Kp.alloc _ _)).trans (Kp.alloc _ _)).trans (Kp.alloc _ _) | with_reducible exact K0.out.trans (Kp.drew _) | with_reducible exact K0.out.trans (Kp.drewN _ _))).trans kk)
  clear kk
  go_wp2_with fail
  refine (CF.out _ (K00.out.trans (by first | with_reducible exact K1.out | with_reducible exact K1.out.trans (Kp.alloc _ _) | with_reducible exact (K1.out.trans (Kp.alloc _ _)).trans (Kp.alloc _ _) | with_reducible exact ((K1.out.trans (Kp.alloc _ _)).trans (Kp.alloc _ _)).trans (Kp.alloc _ _) | with_reducible exact K1.out.trans (Kp.drew _) | with_reducible exact K1.out.trans (Kp.drewN _ _)))).mono ?_
  rintro e w2 ⟨rfl, kk⟩
  have K2 := Lib.hid ((show Kp W0 _ from (by first | with_reducible exact K1.out | with_reducible exact K1.out.trans (Kp.alloc _ _) | with_reducible exact (K1.out.trans (Kp.alloc _ _)).trans (Kp.alloc _ _) | with_reducible exact ((K1.out.trans (Kp.alloc _ _)).trans (Kp.alloc _ _)).trans (Kp.alloc _ _) | with_reducible exact K1.out.trans (Kp.drew _) | with_reducible exact K1.out.trans (Kp.drewN _ _))).trans kk)
  clear kk
  go_wp2
  go_ret
  exact ⟨rfl, K00.out.trans K2.out⟩
 | true =>
  obtain ⟨ol, nl⟩ := OKL.out (by first | rfl | trivial)
  cases fm with
  | false =>
   clear rl rm T gl gm OKL OKM ol nl
   go_enter Tryz.func8, Tryz.ntmps8
   go_wp2_with fail
   refine (CA.out _ (K00.out.trans (by first | with_reducible exact K0.out | with_reducible exact K0.out.trans (Kp.alloc _ _) | with_reducible exact (K0.out.trans (Kp.alloc _ _)).trans (Kp.alloc _ _) | with_reducible exact ((K0.out.trans (Kp.alloc _ _)).trans (Kp.alloc _ _)).trans (Kp.alloc _ _) | with_reducible exact K0.out.trans (Kp.drew _) | with_reducible exact K0.out.trans (Kp.drewN _ _)))).mono ?_
   rintro e w1 ⟨rfl, kk⟩
   have K1 := Lib.hid ((show Kp W0 _ from (by first | with_reducible exact K0.out | with_reducible exact K0.out.trans (Kp.alloc _ _) | with_reducible exact (K0.out.trans (Kp.alloc _ _)).trans (Kp.alloc _ _) | with_reducible exact ((K0.out.trans (Kp.alloc _ _)).trans (Kp.alloc _ _)).trans (Kp.alloc _ _) | with_reducible exact K0.out.trans (Kp.drew _) | with_reducible exact K0.out.trans (Kp.drewN _ _))).trans kk)
   clear kk
   go_wp2_with fail
   refine (CF.out _ (K00.out.trans (by first | with_reducible exact K1.out | with_reducible exact K1.out.trans (Kp.alloc _ _) | with_reducible exact (K1.out.trans (Kp.alloc _ _)).trans (Kp.alloc _ _) | with_reducible exact ((K1.out.trans (Kp.alloc _ _)).trans (Kp.alloc _ _)).trans (Kp.alloc _ _) | with_reducible exact K1.out.trans (Kp.drew _) | with_reducible exact K1.out.trans (Kp.drewN _ _)))).mono ?_
   rintro e w2 ⟨rfl, kk⟩
   have K2 := Lib.hid ((show Kp W0 _ from (by first | with_reducible exact K1.out | with_reducible exact K1.out.trans (Kp.alloc _ _) | with_reducible exact (K1.out.trans (Kp.alloc _ _)).trans (Kp.alloc _ _) | with_reducible exact ((K1.out.trans (Kp.alloc _ _)).trans (Kp.alloc _ _)).trans (Kp.alloc _ _) | with_reducible exact K1.out.trans (Kp.drew _) | with_reducible exact K1.out.trans (Kp.drewN _ _))).trans kk)
   clear kk
   go_wp2_with fail
   refine (CG.out _ (K00.out.trans (by first | with_reducible exact K2.out | with_reducible exact K2.out.trans (Kp.alloc _ _) | with_reducible exact (K2.out.trans (Kp.alloc _ _)).trans (Kp.alloc _ _) | with_reducible exact ((K2.out.trans (Kp.alloc _ _)).trans (Kp.alloc _ _)).trans (Kp.alloc _ _) | with_reducible exact K2.out.trans (Kp.drew _) | with_reducible exact K2.out.trans (Kp.drewN _ _)))).mono ?_
   rintro e w3 ⟨rfl, kk⟩
   have K3 := Lib.hid ((show Kp W0 _ from (by first | with_reducible exact K2.out | with_reducible exact K2.out.trans (Kp.alloc _ _) | with_reducible exact (K2.out.trans (Kp.alloc _ _)).trans (Kp.alloc _ _) | with_reducible exact ((K2.out.trans (Kp.alloc _ _)).trans (Kp.alloc _ _)).trans (Kp.alloc _ _) | with_reducible exact K2.out.trans (Kp.drew _) | with_reducible exact K2.out.trans (Kp.drewN _ _))).trans kk)
   clear kk
   go_wp2
   go_ret
   exact ⟨rfl, K00.out.trans K3.out⟩
  | true =>
   obtain ⟨om, nm⟩ := OKM.out (by first | rfl | trivial)
   have C1 := Lib.hid (fun w1 (k : Kp W0 w1) => relations_any _ _ l m w1 (rl.kp k) (rm.kp k) ol om (by omega) (by omega) (T.kp k).1)
   have CC := Lib.hid (fun r w1 (k : Kp W0 w1) => can_any _ _ l m r w1 (rl.kp k) (rm.kp k) ol om (by omega) (by omega) (T.kp k))
   have CU := Lib.hid (fun w1 (q : Kp W0 w1) => must_any _ _ l m k w1 (rl.kp q) (rm.kp q) ol om (by omega) (by omega) (T.kp q))
   have ME := Lib.hid (mustM l m k)
   have AE := Lib.hid (anyM_all l m)
   have CBI := Lib.hid (fun j h => canB_bit l m j h)
   have CNO := Lib.hid (fun r h => canB_no l m r h)
   have AN := Lib.hid (fun t => And.intro (anyM_next l m t) (outM_next l m k t))
   have A0 := Lib.hid (show anyM l m 0 = false from rfl)
   have O0 := Lib.hid (show outM l m k 0 = false from rfl)
   have CME := Lib.hid (fun t => show cM l m t = canB l m ((t : Int) - 1) from rfl)
   have RB := Lib.hid (fun (x : Nat) (q : Bool) (h : (relM l m).testBit x = q) => t20_bit h)
   clear rl rm T gl gm OKL OKM ol nl om nm
   generalize hM : relM l m = M at *
   generalize relE l m = E at *
   clear hM
   go_enter Tryz.func8, Tryz.ntmps8
   go_wp2_with fail
   refine (CA.out _ (K00.out.trans (by first | with_reducible exact K0.out | with_reducible exact K0.out.trans (Kp.alloc _ _) | with_reducible exact (K0.out.trans (Kp.alloc _ _)).trans (Kp.alloc _ _) | with_reducible exact ((K0.out.trans (Kp.alloc _ _)).trans (Kp.alloc _ _)).trans (Kp.alloc _ _) | with_reducible exact K0.out.trans (Kp.drew _) | with_reducible exact K0.out.trans (Kp.drewN _ _)))).mono ?_
   rintro e w1 ⟨rfl, kk⟩
   have K1 := Lib.hid ((show Kp W0 _ from (by first | with_reducible exact K0.out | with_reducible exact K0.out.trans (Kp.alloc _ _) | with_reducible exact (K0.out.trans (Kp.alloc _ _)).trans (Kp.alloc _ _) | with_reducible exact ((K0.out.trans (Kp.alloc _ _)).trans (Kp.alloc _ _)).trans (Kp.alloc _ _) | with_reducible exact K0.out.trans (Kp.drew _) | with_reducible exact K0.out.trans (Kp.drewN _ _))).trans kk)
   clear kk
   go_wp2_with fail
   refine (CF.out _ (K00.out.trans (by first | with_reducible exact K1.out | with_reducible exact K1.out.trans (Kp.alloc _ _) | with_reducible exact (K1.out.trans (Kp.alloc _ _)).trans (Kp.alloc _ _) | with_reducible exact ((K1.out.trans (Kp.alloc _ _)).trans (Kp.alloc _ _)).trans (Kp.alloc _ _) | with_reducible exact K1.out.trans (Kp.drew _) | with_reducible exact K1.out.trans (Kp.drewN _ _)))).mono ?_
   rintro e w2 ⟨rfl, kk⟩
   have K2 := Lib.hid ((show Kp W0 _ from (by first | with_reducible exact K1.out | with_reducible exact K1.out.trans (Kp.alloc _ _) | with_reducible exact (K1.out.trans (Kp.alloc _ _)).trans (Kp.alloc _ _) | with_reducible exact ((K1.out.trans (Kp.alloc _ _)).trans (Kp.alloc _ _)).trans (Kp.alloc _ _) | with_reducible exact K1.out.trans (Kp.drew _) | with_reducible exact K1.out.trans (Kp.drewN _ _))).trans kk)
   clear kk
   go_wp2_with fail
   refine (CG.out _ (K00.out.trans (by first | with_reducible exact K2.out | with_reducible exact K2.out.trans (Kp.alloc _ _) | with_reducible exact (K2.out.trans (Kp.alloc _ _)).trans (Kp.alloc _ _) | with_reducible exact ((K2.out.trans (Kp.alloc _ _)).trans (Kp.alloc _ _)).trans (Kp.alloc _ _) | with_reducible exact K2.out.trans (Kp.drew _) | with_reducible exact K2.out.trans (Kp.drewN _ _)))).mono ?_
   rintro e w3 ⟨rfl, kk⟩
   have K3 := Lib.hid ((show Kp W0 _ from (by first | with_reducible exact K2.out | with_reducible exact K2.out.trans (Kp.alloc _ _) | with_reducible exact (K2.out.trans (Kp.alloc _ _)).trans (Kp.alloc _ _) | with_reducible exact ((K2.out.trans (Kp.alloc _ _)).trans (Kp.alloc _ _)).trans (Kp.alloc _ _) | with_reducible exact K2.out.trans (Kp.drew _) | with_reducible exact K2.out.trans (Kp.drewN _ _))).trans kk)
   clear kk
   go_wp2_with fail
   refine (C1.out _ (K00.out.trans (by first | with_reducible exact K3.out | with_reducible exact K3.out.trans (Kp.alloc _ _) | with_reducible exact (K3.out.trans (Kp.alloc _ _)).trans (Kp.alloc _ _) | with_reducible exact ((K3.out.trans (Kp.alloc _ _)).trans (Kp.alloc _ _)).trans (Kp.alloc _ _) | with_reducible exact K3.out.trans (Kp.drew _) | with_reducible exact K3.out.trans (Kp.drewN _ _)))).mono ?_
   rintro e w4 ⟨rfl, kk⟩
   have K4 := Lib.hid ((show Kp W0 _ from (by first | with_reducible exact K3.out | with_reducible exact K3.out.trans (Kp.alloc _ _) | with_reducible exact (K3.out.trans (Kp.alloc _ _)).trans (Kp.alloc _ _) | with_reducible exact ((K3.out.trans (Kp.alloc _ _)).trans (Kp.alloc _ _)).trans (Kp.alloc _ _) | with_reducible exact K3.out.trans (Kp.drew _) | with_reducible exact K3.out.trans (Kp.drewN _ _))).trans kk)
   clear kk
   go_wp2
   go_loopw [10, 11, 12] (fun ov av rv wr => ∃ (t : Nat) (oo aa : Bool), t ≤ 15 ∧ ov = .bool oo ∧ av = .bool aa ∧ rv = .int .i64 ((t : Int) - 1) ∧ Hid (oo = outM l m k t) ∧ Hid (aa = anyM l m t) ∧ Hid (Kp w4 wr)) (fun _ _ rv _ => 15 - (intOf rv + 1).toNat)
   case atStart => exact ⟨0, false, false, by omega, rfl, rfl, rfl, Lib.hid O0.out.symm, Lib.hid A0.out.symm, Lib.hid (Kp.refl _)⟩
   case round =>
    obtain ⟨t, oo, aa, ht, rfl, rfl, hr, HO1, HA1, J⟩ := hrel
    have e1 := HA1.out
    have e2 := HO1.out
    clear HO1 HA1
    have NX := AN.out t
    by_cases h0 : t = 0
    ·subst h0
     have hr2 := hr.trans (show _ = Value.int .i64 (-1) from rfl)
     subst hr2
     have c0 : cM l m 0 = false := CNO.out _ (by omega)
     have CX := Lib.hid (CC.out (-1))
     rw [CNO.out (-1) (by omega)] at CX
     clear hr
     cases aa with
     | false =>
      cases oo with
      | false =>
       rw [← e1, ← e2] at NX
       have HA := Lib.hid (show anyM l m 1 = false by rw [NX.1, c0]; rfl)
       have HO := Lib.hid (show outM l m k 1 = false by rw [NX.2, c0]; rfl)
       clear NX e1 e2
       go_wp2_with fail
       refine (CX.out _ (K00.out.trans (K4.out.trans J.out))).mono ?_
       rintro e w5 ⟨rfl, kk⟩
       have J5 := Lib.hid (J.out.trans kk)
       clear kk
       go_wp2
       go_roundw
       case rel => exact ⟨1, false, false, by omega, rfl, rfl, rfl, Lib.hid (HO.out.symm), Lib.hid (HA.out.symm), J5⟩
       case measure => first | (simp [intOf]; done) | (simp [intOf]; omega)
      | true =>
       rw [← e1, ← e2] at NX
       have HA := Lib.hid (show anyM l m 1 = false by rw [NX.1, c0]; rfl)
       have HO := Lib.hid (show outM l m k 1 = true by rw [NX.2, c0]; rfl)
       clear NX e1 e2
       go_wp2_with fail
       refine (CX.out _ (K00.out.trans (K4.out.trans J.out))).mono ?_
       rintro e w5 ⟨rfl, kk⟩
       have J5 := Lib.hid (J.out.trans kk)
       clear kk
       go_wp2
       go_roundw
       case rel => exact ⟨1, true, false, by omega, rfl, rfl, rfl, Lib.hid (HO.out.symm), Lib.hid (HA.out.symm), J5⟩
       case measure => first | (simp [intOf]; done) | (simp [intOf]; omega)
     | true =>
      cases oo with
      | false =>
       rw [← e1, ← e2] at NX
       have HA := Lib.hid (show anyM l m 1 = true by rw [NX.1, c0]; rfl)
       have HO := Lib.hid (show outM l m k 1 = false by rw [NX.2, c0]; rfl)
       clear NX e1 e2
       go_wp2_with fail
       refine (CX.out _ (K00.out.trans (K4.out.trans J.out))).mono ?_
       rintro e w5 ⟨rfl, kk⟩
       have J5 := Lib.hid (J.out.trans kk)
       clear kk
       go_wp2
       go_roundw
       case rel => exact ⟨1, false, true, by omega, rfl, rfl, rfl, Lib.hid (HO.out.symm), Lib.hid (HA.out.symm), J5⟩
       case measure => first | (simp [intOf]; done) | (simp [intOf]; omega)
      | true =>
       rw [← e1, ← e2] at NX
       have HA := Lib.hid (show anyM l m 1 = true by rw [NX.1, c0]; rfl)
       have HO := Lib.hid (show outM l m k 1 = true by rw [NX.2, c0]; rfl)
       clear NX e1 e2
       go_wp2_with fail
       refine (CX.out _ (K00.out.trans (K4.out.trans J.out))).mono ?_
       rintro e w5 ⟨rfl, kk⟩
       have J5 := Lib.hid (J.out.trans kk)
       clear kk
       go_wp2
       go_roundw
       case rel => exact ⟨1, true, true, by omega, rfl, rfl, rfl, Lib.hid (HO.out.symm), Lib.hid (HA.out.symm), J5⟩
       case measure => first | (simp [intOf]; done) | (simp [intOf]; omega)
    ·by_cases h14 : t = 14
     ·subst h14
      have hr2 := hr.trans (show _ = Value.int .i64 13 from rfl)
      subst hr2
      have c0 : cM l m 14 = false := CNO.out _ (by omega)
      have CX := Lib.hid (CC.out 13)
      rw [CNO.out 13 (by omega)] at CX
      clear hr h0
      cases aa with
      | false =>
       cases oo with
       | false =>
        rw [← e1, ← e2] at NX
        have HA := Lib.hid (show anyM l m 15 = false by rw [NX.1, c0]; rfl)
        have HO := Lib.hid (show outM l m k 15 = false by rw [NX.2, c0]; rfl)
        clear NX e1 e2
        go_wp2_with fail
        refine (CX.out _ (K00.out.trans (K4.out.trans J.out))).mono ?_
        rintro e w5 ⟨rfl, kk⟩
        have J5 := Lib.hid (J.out.trans kk)
        clear kk
        go_wp2
        go_roundw
        case rel => exact ⟨15, false, false, by omega, rfl, rfl, rfl, Lib.hid (HO.out.symm), Lib.hid (HA.out.symm), J5⟩
        case measure => first | (simp [intOf]; done) | (simp [intOf]; omega)
       | true =>
        rw [← e1, ← e2] at NX
        have HA := Lib.hid (show anyM l m 15 = false by rw [NX.1, c0]; rfl)
        have HO := Lib.hid (show outM l m k 15 = true by rw [NX.2, c0]; rfl)
        clear NX e1 e2
        go_wp2_with fail
        refine (CX.out _ (K00.out.trans (K4.out.trans J.out))).mono ?_
        rintro e w5 ⟨rfl, kk⟩
        have J5 := Lib.hid (J.out.trans kk)
        clear kk
        go_wp2
        go_roundw
        case rel => exact ⟨15, true, false, by omega, rfl, rfl, rfl, Lib.hid (HO.out.symm), Lib.hid (HA.out.symm), J5⟩
        case measure => first | (simp [intOf]; done) | (simp [intOf]; omega)
      | true =>
       cases oo with
       | false =>
        rw [← e1, ← e2] at NX
        have HA := Lib.hid (show anyM l m 15 = true by rw [NX.1, c0]; rfl)
        have HO := Lib.hid (show outM l m k 15 = false by rw [NX.2, c0]; rfl)
        clear NX e1 e2
        go_wp2_with fail
        refine (CX.out _ (K00.out.trans (K4.out.trans J.out))).mono ?_
        rintro e w5 ⟨rfl, kk⟩
        have J5 := Lib.hid (J.out.trans kk)
        clear kk
        go_wp2
        go_roundw
        case rel => exact ⟨15, false, true, by omega, rfl, rfl, rfl, Lib.hid (HO.out.symm), Lib.hid (HA.out.symm), J5⟩
        case measure => first | (simp [intOf]; done) | (simp [intOf]; omega)
       | true =>
        rw [← e1, ← e2] at NX
        have HA := Lib.hid (show anyM l m 15 = true by rw [NX.1, c0]; rfl)
        have HO := Lib.hid (show outM l m k 15 = true by rw [NX.2, c0]; rfl)
        clear NX e1 e2
        go_wp2_with fail
        refine (CX.out _ (K00.out.trans (K4.out.trans J.out))).mono ?_
        rintro e w5 ⟨rfl, kk⟩
        have J5 := Lib.hid (J.out.trans kk)
        clear kk
        go_wp2
        go_roundw
        case rel => exact ⟨15, true, true, by omega, rfl, rfl, rfl, Lib.hid (HO.out.symm), Lib.hid (HA.out.symm), J5⟩
        case measure => first | (simp [intOf]; done) | (simp [intOf]; omega)
     ·by_cases h15 : t = 15
      ·subst h15
       have hr2 := hr.trans (show _ = Value.int .i64 14 from rfl)
       subst hr2
       have ME2 := ME.out
       rw [← e1, ← e2] at ME2
       have AE2 := AE.out
       rw [← e1] at AE2
       have CU2 := Lib.hid (CU.out)
       rw [ME2] at CU2
       clear hr h0 h14 NX e1 e2 ME2
       cases aa with
       | false =>
        have m0 : M = 0 := Classical.byContradiction fun h => by rw [decide_eq_true h] at AE2; cases AE2
        subst m0
        clear AE2
        cases oo with
        | false =>
         go_wp2_with fail
         refine (CU2.out _ (K00.out.trans (K4.out.trans J.out))).mono ?_
         rintro e w5 ⟨rfl, kk⟩
         have J5 := Lib.hid (K00.out.trans (K4.out.trans (J.out.trans kk)))
         clear kk
         go_wp2
         go_ret
         exact ⟨rfl, J5.out⟩
        | true =>
         go_wp2_with fail
         refine (CU2.out _ (K00.out.trans (K4.out.trans J.out))).mono ?_
         rintro e w5 ⟨rfl, kk⟩
         have J5 := Lib.hid (K00.out.trans (K4.out.trans (J.out.trans kk)))
         clear kk
         go_wp2
         go_ret
         exact ⟨rfl, J5.out⟩
       | true =>
        have m0 : ¬ M = 0 := fun h => by rw [h] at AE2; cases AE2
        have g1 : ((M : Int) == 0) = false := by simp; omega
        have g2 : ((M : Int) != 0) = true := by simp; omega
        have g3 : (M == 0) = false := by simp; omega
        have g4 : (M != 0) = true := by simp; omega
        clear AE2 m0
        cases oo with
        | false =>
         go_wp2_with fail
         refine (CU2.out _ (K00.out.trans (K4.out.trans J.out))).mono ?_
         rintro e w5 ⟨rfl, kk⟩
         have J5 := Lib.hid (K00.out.trans (K4.out.trans (J.out.trans kk)))
         clear kk
         go_wp2
         go_ret
         exact ⟨rfl, J5.out⟩
        | true =>
         go_wp2_with fail
         refine (CU2.out _ (K00.out.trans (K4.out.trans J.out))).mono ?_
         rintro e w5 ⟨rfl, kk⟩
         have J5 := Lib.hid (K00.out.trans (K4.out.trans (J.out.trans kk)))
         clear kk
         go_wp2
         go_ret
         exact ⟨rfl, J5.out⟩
      ·obtain ⟨j, rfl⟩ : ∃ j, t = j + 1 := ⟨t - 1, by omega⟩
       have er : ((j + 1 : Nat) : Int) - 1 = (j : Int) := by omega
       rw [er] at hr
       subst hr
       have j12 : j ≤ 12 := by omega
       have CX := Lib.hid (CC.out (j : Int))
       have cj : cM l m (j + 1) = M.testBit j := by rw [CME.out, er, CBI.out j j12]
       rw [CBI.out j j12] at CX
       rw [cj] at NX
       obtain ⟨cb, hcb⟩ : ∃ q, M.testBit j = q := ⟨_, rfl⟩
       obtain ⟨ob, hob⟩ : ∃ q, oM k (j + 1) = q := ⟨_, rfl⟩
       have F1 := RB.out j cb hcb
       have F2 := t20_not hob
       rw [hcb, hob] at NX
       rw [hcb] at CX
       have mx : max (j : Int) 0 = j := by omega
       have g1 : decide ((j : Int) ≤ 13) = true := decide_eq_true (by omega)
       have g2 : decide ((j : Int) ≥ 0) = true := decide_eq_true (by omega)
       have g3 : decide ((0 : Int) ≤ (j : Int)) = true := decide_eq_true (by omega)
       have g4 : decide ((j : Int) ≤ 12) = true := decide_eq_true (by omega)
       have g5 : decide (j ≤ 13) = true := decide_eq_true (by omega)
       have g6 : decide (j ≤ 12) = true := decide_eq_true (by omega)
       have z0 : (0 : Int) ≤ (j : Int) := by omega
       have EN := Lib.hid (show Value.int .i64 ((j : Int) + 1) = Value.int .i64 (((j + 1 + 1 : Nat) : Int) - 1) by rw [show (((j + 1 + 1 : Nat) : Int) - 1) = (j : Int) + 1 by omega])
       clear er cj hcb hob h0 h14
       cases cb with
       | false =>
        cases ob with
        | false =>
         cases aa with
         | false =>
          cases oo with
          | false =>
           rw [← e1, ← e2] at NX
           have HA := Lib.hid (show anyM l m (j + 1 + 1) = false by rw [NX.1]; rfl)
           have HO := Lib.hid (show outM l m k (j + 1 + 1) = false by rw [NX.2]; rfl)
           clear NX e1 e2
           go_wp2_with fail
           refine (CX.out _ (K00.out.trans (K4.out.trans J.out))).mono ?_
           rintro e w5 ⟨rfl, kk⟩
           have J5 := Lib.hid (J.out.trans kk)
           clear kk
           go_wp2
           go_roundw
           case rel => exact ⟨j + 1 + 1, false, false, by omega, rfl, rfl, EN.out, Lib.hid (HO.out.symm), Lib.hid (HA.out.symm), J5⟩
           case measure => first | (simp [intOf]; done) | (simp [intOf]; omega)
          | true =>
           rw [← e1, ← e2] at NX
           have HA := Lib.hid (show anyM l m (j + 1 + 1) = false by rw [NX.1]; rfl)
           have HO := Lib.hid (show outM l m k (j + 1 + 1) = true by rw [NX.2]; rfl)
           clear NX e1 e2
           go_wp2_with fail
           refine (CX.out _ (K00.out.trans (K4.out.trans J.out))).mono ?_
           rintro e w5 ⟨rfl, kk⟩
           have J5 := Lib.hid (J.out.trans kk)
           clear kk
           go_wp2
           go_roundw
           case rel => exact ⟨j + 1 + 1, true, false, by omega, rfl, rfl, EN.out, Lib.hid (HO.out.symm), Lib.hid (HA.out.symm), J5⟩
           case measure => first | (simp [intOf]; done) | (simp [intOf]; omega)
         | true =>
          cases oo with
          | false =>
           rw [← e1, ← e2] at NX
           have HA := Lib.hid (show anyM l m (j + 1 + 1) = true by rw [NX.1]; rfl)
           have HO := Lib.hid (show outM l m k (j + 1 + 1) = false by rw [NX.2]; rfl)
           clear NX e1 e2
           go_wp2_with fail
           refine (CX.out _ (K00.out.trans (K4.out.trans J.out))).mono ?_
           rintro e w5 ⟨rfl, kk⟩
           have J5 := Lib.hid (J.out.trans kk)
           clear kk
           go_wp2
           go_roundw
           case rel => exact ⟨j + 1 + 1, false, true, by omega, rfl, rfl, EN.out, Lib.hid (HO.out.symm), Lib.hid (HA.out.symm), J5⟩
           case measure => first | (simp [intOf]; done) | (simp [intOf]; omega)
          | true =>
           rw [← e1, ← e2] at NX
           have HA := Lib.hid (show anyM l m (j + 1 + 1) = true by rw [NX.1]; rfl)
           have HO := Lib.hid (show outM l m k (j + 1 + 1) = true by rw [NX.2]; rfl)
           clear NX e1 e2
           go_wp2_with fail
           refine (CX.out _ (K00.out.trans (K4.out.trans J.out))).mono ?_
           rintro e w5 ⟨rfl, kk⟩
           have J5 := Lib.hid (J.out.trans kk)
           clear kk
           go_wp2
           go_roundw
           case rel => exact ⟨j + 1 + 1, true, true, by omega, rfl, rfl, EN.out, Lib.hid (HO.out.symm), Lib.hid (HA.out.symm), J5⟩
           case measure => first | (simp [intOf]; done) | (simp [intOf]; omega)
        | true =>
         cases aa with
         | false =>
          cases oo with
          | false =>
           rw [← e1, ← e2] at NX
           have HA := Lib.hid (show anyM l m (j + 1 + 1) = false by rw [NX.1]; rfl)
           have HO := Lib.hid (show outM l m k (j + 1 + 1) = false by rw [NX.2]; rfl)
           clear NX e1 e2
           go_wp2_with fail
           refine (CX.out _ (K00.out.trans (K4.out.trans J.out))).mono ?_
           rintro e w5 ⟨rfl, kk⟩
           have J5 := Lib.hid (J.out.trans kk)
           clear kk
           go_wp2
           go_roundw
           case rel => exact ⟨j + 1 + 1, false, false, by omega, rfl, rfl, EN.out, Lib.hid (HO.out.symm), Lib.hid (HA.out.symm), J5⟩
           case measure => first | (simp [intOf]; done) | (simp [intOf]; omega)
          | true =>
           rw [← e1, ← e2] at NX
           have HA := Lib.hid (show anyM l m (j + 1 + 1) = false by rw [NX.1]; rfl)
           have HO := Lib.hid (show outM l m k (j + 1 + 1) = true by rw [NX.2]; rfl)
           clear NX e1 e2
           go_wp2_with fail
           refine (CX.out _ (K00.out.trans (K4.out.trans J.out))).mono ?_
           rintro e w5 ⟨rfl, kk⟩
           have J5 := Lib.hid (J.out.trans kk)
           clear kk
           go_wp2
           go_roundw
           case rel => exact ⟨j + 1 + 1, true, false, by omega, rfl, rfl, EN.out, Lib.hid (HO.out.symm), Lib.hid (HA.out.symm), J5⟩
           case measure => first | (simp [intOf]; done) | (simp [intOf]; omega)
         | true =>
          cases oo with
          | false =>
           rw [← e1, ← e2] at NX
           have HA := Lib.hid (show anyM l m (j + 1 + 1) = true by rw [NX.1]; rfl)
           have HO := Lib.hid (show outM l m k (j + 1 + 1) = false by rw [NX.2]; rfl)
           clear NX e1 e2
           go_wp2_with fail
           refine (CX.out _ (K00.out.trans (K4.out.trans J.out))).mono ?_
           rintro e w5 ⟨rfl, kk⟩
           have J5 := Lib.hid (J.out.trans kk)
           clear kk
           go_wp2
           go_roundw
           case rel => exact ⟨j + 1 + 1, false, true, by omega, rfl, rfl, EN.out, Lib.hid (HO.out.symm), Lib.hid (HA.out.symm), J5⟩
           case measure => first | (simp [intOf]; done) | (simp [intOf]; omega)
          | true =>
           rw [← e1, ← e2] at NX
           have HA := Lib.hid (show anyM l m (j + 1 + 1) = true by rw [NX.1]; rfl)
           have HO := Lib.hid (show outM l m k (j + 1 + 1) = true by rw [NX.2]; rfl)
           clear NX e1 e2
           go_wp2_with fail
           refine (CX.out _ (K00.out.trans (K4.out.trans J.out))).mono ?_
           rintro e w5 ⟨rfl, kk⟩
           have J5 := Lib.hid (J.out.trans kk)
           clear kk
           go_wp2
           go_roundw
           case rel => exact ⟨j + 1 + 1, true, true, by omega, rfl, rfl, EN.out, Lib.hid (HO.out.symm), Lib.hid (HA.out.symm), J5⟩
           case measure => first | (simp [intOf]; done) | (simp [intOf]; omega)
       | true =>
        cases ob with
        | false =>
         cases aa with
         | false =>
          cases oo with
          | false =>
           rw [← e1, ← e2] at NX
           have HA := Lib.hid (show anyM l m (j + 1 + 1) = true by rw [NX.1]; rfl)
           have HO := Lib.hid (show outM l m k (j + 1 + 1) = false by rw [NX.2]; rfl)
           clear NX e1 e2
           go_wp2_with fail
           refine (CX.out _ (K00.out.trans (K4.out.trans J.out))).mono ?_
           rintro e w5 ⟨rfl, kk⟩
           have J5 := Lib.hid (J.out.trans kk)
           clear kk
           go_wp2
           go_roundw
           case rel => exact ⟨j + 1 + 1, false, true, by omega, rfl, rfl, EN.out, Lib.hid (HO.out.symm), Lib.hid (HA.out.symm), J5⟩
           case measure => first | (simp [intOf]; done) | (simp [intOf]; omega)
          | true =>
           rw [← e1, ← e2] at NX
           have HA := Lib.hid (show anyM l m (j + 1 + 1) = true by rw [NX.1]; rfl)
           have HO := Lib.hid (show outM l m k (j + 1 + 1) = true by rw [NX.2]; rfl)
           clear NX e1 e2
           go_wp2_with fail
           refine (CX.out _ (K00.out.trans (K4.out.trans J.out))).mono ?_
           rintro e w5 ⟨rfl, kk⟩
           have J5 := Lib.hid (J.out.trans kk)
           clear kk
           go_wp2
           go_roundw
           case rel => exact ⟨j + 1 + 1, true, true, by omega, rfl, rfl, EN.out, Lib.hid (HO.out.symm), Lib.hid (HA.out.symm), J5⟩
           case measure => first | (simp [intOf]; done) | (simp [intOf]; omega)
         | true =>
          cases oo with
          | false =>
           rw [← e1, ← e2] at NX
           have HA := Lib.hid (show anyM l m (j + 1 + 1) = true by rw [NX.1]; rfl)
           have HO := Lib.hid (show outM l m k (j + 1 + 1) = false by rw [NX.2]; rfl)
           clear NX e1 e2
           go_wp2_with fail
           refine (CX.out _ (K00.out.trans (K4.out.trans J.out))).mono ?_
           rintro e w5 ⟨rfl, kk⟩
           have J5 := Lib.hid (J.out.trans kk)
           clear kk
           go_wp2
           go_roundw
           case rel => exact ⟨j + 1 + 1, false, true, by omega, rfl, rfl, EN.out, Lib.hid (HO.out.symm), Lib.hid (HA.out.symm), J5⟩
           case measure => first | (simp [intOf]; done) | (simp [intOf]; omega)
          | true =>
           rw [← e1, ← e2] at NX
           have HA := Lib.hid (show anyM l m (j + 1 + 1) = true by rw [NX.1]; rfl)
           have HO := Lib.hid (show outM l m k (j + 1 + 1) = true by rw [NX.2]; rfl)
           clear NX e1 e2
           go_wp2_with fail
           refine (CX.out _ (K00.out.trans (K4.out.trans J.out))).mono ?_
           rintro e w5 ⟨rfl, kk⟩
           have J5 := Lib.hid (J.out.trans kk)
           clear kk
           go_wp2
           go_roundw
           case rel => exact ⟨j + 1 + 1, true, true, by omega, rfl, rfl, EN.out, Lib.hid (HO.out.symm), Lib.hid (HA.out.symm), J5⟩
           case measure => first | (simp [intOf]; done) | (simp [intOf]; omega)
        | true =>
         cases aa with
         | false =>
          cases oo with
          | false =>
           rw [← e1, ← e2] at NX
           have HA := Lib.hid (show anyM l m (j + 1 + 1) = true by rw [NX.1]; rfl)
           have HO := Lib.hid (show outM l m k (j + 1 + 1) = true by rw [NX.2]; rfl)
           clear NX e1 e2
           go_wp2_with fail
           refine (CX.out _ (K00.out.trans (K4.out.trans J.out))).mono ?_
           rintro e w5 ⟨rfl, kk⟩
           have J5 := Lib.hid (J.out.trans kk)
           clear kk
           go_wp2
           go_roundw
           case rel => exact ⟨j + 1 + 1, true, true, by omega, rfl, rfl, EN.out, Lib.hid (HO.out.symm), Lib.hid (HA.out.symm), J5⟩
           case measure => first | (simp [intOf]; done) | (simp [intOf]; omega)
          | true =>
           rw [← e1, ← e2] at NX
           have HA := Lib.hid (show anyM l m (j + 1 + 1) = true by rw [NX.1]; rfl)
           have HO := Lib.hid (show outM l m k (j + 1 + 1) = true by rw [NX.2]; rfl)
           clear NX e1 e2
           go_wp2_with fail
           refine (CX.out _ (K00.out.trans (K4.out.trans J.out))).mono ?_
           rintro e w5 ⟨rfl, kk⟩
           have J5 := Lib.hid (J.out.trans kk)
           clear kk
           go_wp2
           go_roundw
           case rel => exact ⟨j + 1 + 1, true, true, by omega, rfl, rfl, EN.out, Lib.hid (HO.out.symm), Lib.hid (HA.out.symm), J5⟩
           case measure => first | (simp [intOf]; done) | (simp [intOf]; omega)
         | true =>
          cases oo with
          | false =>
           rw [← e1, ← e2] at NX
           have HA := Lib.hid (show anyM l m (j + 1 + 1) = true by rw [NX.1]; rfl)
           have HO := Lib.hid (show outM l m k (j + 1 + 1) = true by rw [NX.2]; rfl)
           clear NX e1 e2
           go_wp2_with fail
           refine (CX.out _ (K00.out.trans (K4.out.trans J.out))).mono ?_
           rintro e w5 ⟨rfl, kk⟩
           have J5 := Lib.hid (J.out.trans kk)
           clear kk
           go_wp2
           go_roundw
           case rel => exact ⟨j + 1 + 1, true, true, by omega, rfl, rfl, EN.out, Lib.hid (HO.out.symm), Lib.hid (HA.out.symm), J5⟩
           case measure => first | (simp [intOf]; done) | (simp [intOf]; omega)
          | true =>
           rw [← e1, ← e2] at NX
           have HA := Lib.hid (show anyM l m (j + 1 + 1) = true by rw [NX.1]; rfl)
           have HO := Lib.hid (show outM l m k (j + 1 + 1) = true by rw [NX.2]; rfl)
           clear NX e1 e2
           go_wp2_with fail
           refine (CX.out _ (K00.out.trans (K4.out.trans J.out))).mono ?_
           rintro e w5 ⟨rfl, kk⟩
           have J5 := Lib.hid (J.out.trans kk)
           clear kk
           go_wp2
           go_roundw
           case rel => exact ⟨j + 1 + 1, true, true, by omega, rfl, rfl, EN.out, Lib.hid (HO.out.symm), Lib.hid (HA.out.symm), J5⟩
           case measure => first | (simp [intOf]; done) | (simp [intOf]; omega)
end Go.Proofs.YtamdjbpgkiekcaaGreatDoor
