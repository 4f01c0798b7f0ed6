import Derived.Test.YtcooaoponkkpeaaGreatDoor20X
import Derived.Test.YtcooaoponkkpeaaGreatDoorJZ
set_option maxHeartbeats 16000000
set_option maxRecDepth 100000
namespace Go.Proofs.YtcooaoponkkpeaaGreatDoor
open Go.RowKit Go.Shelf
set_option linter.unusedVariables false
set_option linter.unusedSimpArgs false
theorem bitB_nat (M n : Nat) : bitB (M : Int) n = M.testBit n := by
 unfold bitB
 rw [Nat.testBit_eq_decide_div_mod_eq]
 refine decide_eq_decide.2 ?_
 have e : ((M : Int) / 2 ^ n % 2) = ((M / 2 ^ n % 2 : Nat) : Int) := by push_cast; rfl
 rw [e]
 omega
theorem relM_no {l m : List LF} (h : relOk l m = false) : relM l m = 0 := if_neg (by rw [h]; simp)
theorem can_in (l m : List LF) {n : Nat} (hn : n ≤ 12) : bitB ((relM l m : Nat) : Int) n = canB l m (n : Int) := by
 rw [bitB_nat]
 unfold canB invB
 rw [decide_eq_true (by omega : (0 : Int) ≤ (n : Int) ∧ (n : Int) ≤ 12), Bool.true_and, Int.toNat_natCast]
 cases h : relOk l m with
 | false => rw [relM_no h]; simp
 | true => simp
theorem can_out (l m : List LF) {r : Int} (hr : r < 0 ∨ 12 < r) : canB l m r = false := by
 unfold canB invB
 rw [decide_eq_false (by omega : ¬ (0 ≤ r ∧ r ≤ 12))]
 simp
theorem must_0 {l m : List LF} (k : Int) (h : relM l m = 0) : mustB l m k = false := by
 unfold mustB
 rw [h]
 simp
theorem must_1 {l m : List LF} (k : Int) (h : relM l m ≠ 0) : mustB l m k = (bits .and .i64 ((relM l m : Nat) : Int) k == ((relM l m : Nat) : Int)) := by
 have ho : relOk l m = true := by
  rcases Bool.eq_false_or_eq_true (relOk l m) with q | q
  ·exact q
  ·exact absurd (relM_no q) h
 unfold mustB
 rw [ho, decide_eq_true h, Bool.true_and, Bool.true_and, Bool.eq_iff_iff, decide_eq_true_eq, beq_iff_eq, and_same (relM_lt l m)]
theorem rcan_any (vl vm : Value) (l m : List LF) (r : Int) (w : World) (hv : LeavesAt w vl l) (hu : LeavesAt w vm m) (hl : LsOk l) (hm : LsOk m) (nl : l.length ≤ 100) (nm : m.length ≤ 100) (fl : ∀ f ∈ l, FewP f) (fm : ∀ f ∈ m, FewP f) :
  Calls Tryz.prog 10 #[vl, vm, .int .i64 r] w fun e w' => e = .returned (.bool (canB l m r)) ∧ Kp w w' := by
 have C := Hd (rrel_any vl vm l m w hv hu hl hm nl nm fl fm)
 have CN := Hd (fun w1 => (show Calls Tryz.prog 32 #[.int .i64 ((relM l m : Nat) : Int), .int .i64 r] w1 fun e w' => e = .returned (.bool (canB l m r)) ∧ w1 = w' from by
  by_cases h : 0 ≤ r ∧ r ≤ 12
  ·obtain ⟨n, rfl⟩ : ∃ n : Nat, r = (n : Int) := ⟨r.toNat, by omega⟩
   have q := refHas_any ((relM l m : Nat) : Int) n w1 (by omega)
   rwa [can_in l m (by omega)] at q
  ·rw [can_out l m (by omega)]
   exact refHas_out _ r w1 (by omega)))
 generalize canB l m r = cb at *
 generalize relM l m = M at *
 generalize relE l m = E at *
 clear hv hu hl hm fl fm
 go_enter Tryz.func10, Tryz.ntmps10
 go_wp2_with fail
 refine C.out.mono ?_
 rintro e w1 ⟨rfl, k1⟩
 have K1 := Hd k1
 clear k1
 go_wp2_with fail
 refine (CN.out _).mono ?_
 rintro e w' ⟨rfl, rfl⟩
 go_wp2
 go_ret
 exact ⟨rfl, K1.out⟩
theorem rmust_any (vl vm : Value) (l m : List LF) (k : Int) (w : World) (hv : LeavesAt w vl l) (hu : LeavesAt w vm m) (hl : LsOk l) (hm : LsOk m) (nl : l.length ≤ 100) (nm : m.length ≤ 100) (fl : ∀ f ∈ l, FewP f) (fm : ∀ f ∈ m, FewP f) :
  Calls Tryz.prog 12 #[vl, vm, .int .i64 k] w fun e w' => e = .returned (.bool (mustB l m k)) ∧ Kp w w' := by
 have C := Hd (rrel_any vl vm l m w hv hu hl hm nl nm fl fm)
 by_cases h0 : relM l m = 0
 ·rw [must_0 k h0]
  rw [h0] at C
  have q1 : ((((0 : Nat) : Int)) != 0) = false := rfl
  have q2 : ((0 : Int) != 0) = false := rfl
  generalize relE l m = E at *
  clear hv hu hl hm fl fm h0
  go_enter Tryz.func12, Tryz.ntmps12
  go_wp2_with fail
  refine C.out.mono ?_
  rintro e w1 ⟨rfl, k1⟩
  have K1 := Hd k1
  clear k1
  go_wp2
  go_ret
  exact ⟨rfl, K1.out⟩
 ·rw [must_1 k h0]
  generalize relM l m = M at *
  generalize relE l m = E at *
  obtain ⟨q, hq⟩ : ∃ q : Bool, (bits .and .i64 ((M : Nat) : Int) k == ((M : Nat) : Int)) = q := ⟨_, rfl⟩
  rw [hq]
  have q1 : (((M : Nat) : Int) != 0) = true := by simp; omega
  have q2 : (M != 0) = true := by simp; omega
  generalize hz : bits .and .i64 ((M : Nat) : Int) k = z at *
  clear hv hu hl hm fl fm h0
  go_enter Tryz.func12, Tryz.ntmps12
  go_wp2_with fail
  refine C.out.mono ?_
  rintro e w1 ⟨rfl, k1⟩
  have K1 := Hd k1
  clear k1
  go_wp2
  go_ret
  exact ⟨rfl, K1.out⟩
theorem ris_f1 (vl : Value) (l : List LF) (vm : Value) (m : List LF) (r : Int) (k : Int) (w : World) (rl : LeavesAt w vl l) (gl : ∀ f ∈ l, LeafG f) (rm : LeavesAt w vm m) (gm : ∀ f ∈ m, LeafG f) (hr1 : -9223372036854775808 ≤ r) (hr2 : r ≤ 9223372036854775807) (hk1 : -9223372036854775808 ≤ k) (hk2 : k ≤ 9223372036854775807) (T : Tabs20 w) (hf : few20 l = false) :
  Calls Tryz.prog 3 #[vl, vm, .int .i64 r, .int .i64 k] w fun e w' => e = .returned (.bool true) ∧ Kp w w' := by
 have CA := Hd (fun w1 (kk : Kp w w1) => awake20 w1 (T.kp kk))
 have CF := Hd (fun w1 (kk : Kp w w1) => few20_any _ l w1 (rl.kp kk) gl)
 have CG := Hd (fun w1 (kk : Kp w w1) => few20_any _ m w1 (rm.kp kk) gm)
 rw [hf] at CF
 obtain ⟨adl, cal, rfl⟩ := rl.slice
 obtain ⟨adm, cam, rfl⟩ := rm.slice
 obtain ⟨W0, hW⟩ : ∃ W0, W0 = w := ⟨_, rfl⟩
 subst hW
 have K00 := Hd (Kp.refl W0)
 have K0 := Hd (Kp.refl W0)
 clear rl rm gl gm T
 go_enter Tryz.func3, Tryz.ntmps3
 go_wp2_with fail
 refine (CA.out _ (K00.out.trans (ky K0.out))).mono ?_
 rintro e w1 ⟨rfl, kk⟩
 have K1 := Hd ((show Kp W0 _ from (ky K0.out)).trans kk)
 clear kk
 go_wp2_with fail
 refine (CF.out _ (K00.out.trans (ky K1.out))).mono ?_
 rintro e w2 ⟨rfl, kk⟩
 have K2 := Hd ((show Kp W0 _ from (ky K1.out)).trans kk)
 clear kk
 go_wp2
 go_ret
 exact ⟨rfl, K00.out.trans K2.out⟩
theorem ris_f2 (vl : Value) (l : List LF) (vm : Value) (m : List LF) (r : Int) (k : Int) (w : World) (rl : LeavesAt w vl l) (gl : ∀ f ∈ l, LeafG f) (rm : LeavesAt w vm m) (gm : ∀ f ∈ m, LeafG f) (hr1 : -9223372036854775808 ≤ r) (hr2 : r ≤ 9223372036854775807) (hk1 : -9223372036854775808 ≤ k) (hk2 : k ≤ 9223372036854775807) (T : Tabs20 w) (hf : few20 l = true) (hg : few20 m = false) :
  Calls Tryz.prog 3 #[vl, vm, .int .i64 r, .int .i64 k] w fun e w' => e = .returned (.bool true) ∧ Kp w w' := by
 have CA := Hd (fun w1 (kk : Kp w w1) => awake20 w1 (T.kp kk))
 have CF := Hd (fun w1 (kk : Kp w w1) => few20_any _ l w1 (rl.kp kk) gl)
 have CG := Hd (fun w1 (kk : Kp w w1) => few20_any _ m w1 (rm.kp kk) gm)
 rw [hf] at CF
 rw [hg] at CG
 obtain ⟨adl, cal, rfl⟩ := rl.slice
 obtain ⟨adm, cam, rfl⟩ := rm.slice
 obtain ⟨W0, hW⟩ : ∃ W0, W0 = w := ⟨_, rfl⟩
 subst hW
 have K00 := Hd (Kp.refl W0)
 have K0 := Hd (Kp.refl W0)
 clear rl rm gl gm T
 go_enter Tryz.func3, Tryz.ntmps3
 go_wp2_with fail
 refine (CA.out _ (K00.out.trans (ky K0.out))).mono ?_
 rintro e w1 ⟨rfl, kk⟩
 have K1 := Hd ((show Kp W0 _ from (ky K0.out)).trans kk)
 clear kk
 go_wp2_with fail
 refine (CF.out _ (K00.out.trans (ky K1.out))).mono ?_
 rintro e w2 ⟨rfl, kk⟩
 have K2 := Hd ((show Kp W0 _ from (ky K1.out)).trans kk)
 clear kk
 go_wp2_with fail
 refine (CG.out _ (K00.out.trans (ky K2.out))).mono ?_
 rintro e w3 ⟨rfl, kk⟩
 have K3 := Hd ((show Kp W0 _ from (ky K2.out)).trans kk)
 clear kk
 go_wp2
 go_ret
 exact ⟨rfl, K00.out.trans K3.out⟩
theorem ris_main (vl : Value) (l : List LF) (vm : Value) (m : List LF) (r : Int) (k : Int) (w : World) (rl : LeavesAt w vl l) (gl : ∀ f ∈ l, LeafG f) (rm : LeavesAt w vm m) (gm : ∀ f ∈ m, LeafG f) (hr1 : -9223372036854775808 ≤ r) (hr2 : r ≤ 9223372036854775807) (hk1 : -9223372036854775808 ≤ k) (hk2 : k ≤ 9223372036854775807) (T : Tabs20 w) (hf : few20 l = true) (hg : few20 m = true) :
  Calls Tryz.prog 3 #[vl, vm, .int .i64 r, .int .i64 k] w fun e w' => e = .returned (.bool true) ∧ Kp w w' := by
 have CA := Hd (fun w1 (kk : Kp w w1) => awake20 w1 (T.kp kk))
 have CF := Hd (fun w1 (kk : Kp w w1) => few20_any _ l w1 (rl.kp kk) gl)
 have CG := Hd (fun w1 (kk : Kp w w1) => few20_any _ m w1 (rm.kp kk) gm)
 rw [hf] at CF
 rw [hg] at CG
 obtain ⟨ok, ln⟩ := few20_ok hf gl
 obtain ⟨okm, lm⟩ := few20_ok hg gm
 have un : unitsN l ≤ 60 := by unfold few20 at hf; rw [Bool.and_eq_true, decide_eq_true_eq] at hf; exact hf.2
 have um : unitsN m ≤ 60 := by unfold few20 at hg; rw [Bool.and_eq_true, decide_eq_true_eq] at hg; exact hg.2
 have fu : ∀ f ∈ l, FewP f := fun f q => fewP_of (by have := (uniP_le ok).2 f q; omega)
 have fum : ∀ f ∈ m, FewP f := fun f q => fewP_of (by have := (uniP_le okm).2 f q; omega)
 have R1 := Hd (fun w1 (kk : Kp w w1) => relations_any _ _ l m w1 (rl.kp kk) (rm.kp kk) ok okm (by omega) (by omega) (T.kp kk).1)
 have R2 := Hd (fun w1 (kk : Kp w w1) => rrel_any _ _ l m w1 (rl.kp kk) (rm.kp kk) ok okm (by omega) (by omega) fu fum)
 have R3 := Hd (fun w1 (kk : Kp w w1) => can_any _ _ l m r w1 (rl.kp kk) (rm.kp kk) ok okm (by omega) (by omega) (T.kp kk))
 have R4 := Hd (fun w1 (kk : Kp w w1) => rcan_any _ _ l m r w1 (rl.kp kk) (rm.kp kk) ok okm (by omega) (by omega) fu fum)
 have R5 := Hd (fun w1 (kk : Kp w w1) => must_any _ _ l m k w1 (rl.kp kk) (rm.kp kk) ok okm (by omega) (by omega) (T.kp kk))
 have R6 := Hd (fun w1 (kk : Kp w w1) => rmust_any _ _ l m k w1 (rl.kp kk) (rm.kp kk) ok okm (by omega) (by omega) fu fum)
 generalize relM l m = M at *
 generalize relE l m = E at *
 generalize canB l m r = cb at *
 generalize mustB l m k = mb at *
 have t1 : (((M : Nat) : Int) == ((M : Nat) : Int)) = true := by simp
 have t2 : (E == E) = true := by simp
 have t3 : (cb == cb) = true := by simp
 have t4 : (mb == mb) = true := by simp
 have t5 : (M == M) = true := by simp
 obtain ⟨adl, cal, rfl⟩ := rl.slice
 obtain ⟨adm, cam, rfl⟩ := rm.slice
 obtain ⟨W0, hW⟩ : ∃ W0, W0 = w := ⟨_, rfl⟩
 subst hW
 have K00 := Hd (Kp.refl W0)
 have K0 := Hd (Kp.refl W0)
 clear rl rm gl gm T hf hg ok okm fu fum un um
 go_enter Tryz.func3, Tryz.ntmps3
 go_wp2_with fail
 refine (CA.out _ (K00.out.trans (ky K0.out))).mono ?_
 rintro e w1 ⟨rfl, kk⟩
 have K1 := Hd ((show Kp W0 _ from (ky K0.out)).trans kk)
 clear kk
 go_wp2_with fail
 refine (CF.out _ (K00.out.trans (ky K1.out))).mono ?_
 rintro e w2 ⟨rfl, kk⟩
 have K2 := Hd ((show Kp W0 _ from (ky K1.out)).trans kk)
 clear kk
 go_wp2_with fail
 refine (CG.out _ (K00.out.trans (ky K2.out))).mono ?_
 rintro e w3 ⟨rfl, kk⟩
 have K3 := Hd ((show Kp W0 _ from (ky K2.out)).trans kk)
 clear kk
 go_wp2_with fail
 refine (R1.out _ (K00.out.trans (ky K3.out))).mono ?_
 rintro e w4 ⟨rfl, kk⟩
 have K4 := Hd ((show Kp W0 _ from (ky K3.out)).trans kk)
 clear kk
 go_wp2_with fail
 refine (R2.out _ (K00.out.trans (ky K4.out))).mono ?_
 rintro e w5 ⟨rfl, kk⟩
 have K5 := Hd ((show Kp W0 _ from (ky K4.out)).trans kk)
 clear kk
 go_wp2_with fail
 refine (R3.out _ (K00.out.trans (ky K5.out))).mono ?_
 rintro e w6 ⟨rfl, kk⟩
 have K6 := Hd ((show Kp W0 _ from (ky K5.out)).trans kk)
 clear kk
 go_wp2_with fail
 refine (R4.out _ (K00.out.trans (ky K6.out))).mono ?_
 rintro e w7 ⟨rfl, kk⟩
 have K7 := Hd ((show Kp W0 _ from (ky K6.out)).trans kk)
 clear kk
 go_wp2_with fail
 refine (R5.out _ (K00.out.trans (ky K7.out))).mono ?_
 rintro e w8 ⟨rfl, kk⟩
 have K8 := Hd ((show Kp W0 _ from (ky K7.out)).trans kk)
 clear kk
 go_wp2_with fail
 refine (R6.out _ (K00.out.trans (ky K8.out))).mono ?_
 rintro e w9 ⟨rfl, kk⟩
 have K9 := Hd ((show Kp W0 _ from (ky K8.out)).trans kk)
 clear kk
 go_wp2
 go_ret
 exact ⟨rfl, K00.out.trans K9.out⟩
theorem relateIs_walk (vl : Value) (l : List LF) (vm : Value) (m : List LF) (r : Int) (k : Int) (w : World) (rl : LeavesAt w vl l) (gl : ∀ f ∈ l, LeafG f) (rm : LeavesAt w vm m) (gm : ∀ f ∈ m, LeafG f) (hr1 : -9223372036854775808 ≤ r) (hr2 : r ≤ 9223372036854775807) (hk1 : -9223372036854775808 ≤ k) (hk2 : k ≤ 9223372036854775807) (T : Tabs20 w) :
  Calls Tryz.prog 3 #[vl, vm, .int .i64 r, .int .i64 k] w fun e w' => e = .returned (.bool true) ∧ Kp w w' := by
 rcases Bool.eq_false_or_eq_true (few20 l) with hf | hf
 ·rcases Bool.eq_false_or_eq_true (few20 m) with hg | hg
  ·exact ris_main vl l vm m r k w rl gl rm gm hr1 hr2 hk1 hk2 T hf hg
  ·exact ris_f2 vl l vm m r k w rl gl rm gm hr1 hr2 hk1 hk2 T hf hg
 ·exact ris_f1 vl l vm m r k w rl gl rm gm hr1 hr2 hk1 hk2 T hf
end Go.Proofs.YtcooaoponkkpeaaGreatDoor
