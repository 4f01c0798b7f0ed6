import Derived.Test.YtjdnejglapnbbaaGreatDoorGJf
import Derived.Test.YtjdnejglapnbbaaGreatDoorGOrdB
set_option maxHeartbeats 16000000
set_option maxRecDepth 100000
namespace Go.Proofs.YtjdnejglapnbbaaGreatDoor
open Go.RowKit
set_option linter.unusedVariables false
set_option linter.unusedSimpArgs false
theorem rel_ahead {S T S' T' : Int} (h : S ≤ T) (g : S' ≤ T') : (rel S T S' T' = 0 ∨ rel S T S' T' = 1) ↔ T < S' := by
 unfold rel
 (repeat' split) <;> omega
theorem met_env {l : List LF} (h : anyB l = true) : (∃ S, hasP l S (envF dGE max l).1) ∧ (∃ T, hasP l (envF dLS min l).1 T) ∧ (∃ S, hasP l S (envF dLE min l).1) ∧ ∃ T, hasP l (envF dGS max l).1 T := by
 have key : ∀ f ∈ l, fullB f = true → ∀ S T, hasF (famR f) S T = true → hasP l S T := fun f hf _ S T g => List.any_eq_true.2 ⟨f, hf, g⟩
 have em : ∀ f, fullB f = true → emptyF (famR f) = false := fun f g => by unfold fullB at g; simpa using g
 obtain ⟨_, _, f1, h1, g1, e1⟩ := env_max dGE l h
 obtain ⟨_, _, f2, h2, g2, e2⟩ := env_min dLS l h
 obtain ⟨_, _, f3, h3, g3, e3⟩ := env_min dLE l h
 obtain ⟨_, _, f4, h4, g4, e4⟩ := env_max dGS l h
 obtain ⟨_, _, _, S1, m1⟩ := days_met (famR_ok f1) (em f1 g1)
 obtain ⟨⟨T2, m2⟩, _⟩ := days_met (famR_ok f2) (em f2 g2)
 obtain ⟨_, _, ⟨S3, m3⟩, _⟩ := days_met (famR_ok f3) (em f3 g3)
 obtain ⟨_, ⟨T4, m4⟩, _⟩ := days_met (famR_ok f4) (em f4 g4)
 rw [e1] at m1
 rw [e2] at m2
 rw [e3] at m3
 rw [e4] at m4
 exact ⟨⟨S1, key f1 h1 g1 _ _ m1⟩, ⟨T2, key f2 h2 g2 _ _ m2⟩, ⟨S3, key f3 h3 g3 _ _ m3⟩, ⟨T4, key f4 h4 g4 _ _ m4⟩⟩
theorem cer_must {l m : List LF} (ho : relOk l m = true) (hb : bothB l m = true) : mustB l m 3 = cerO l m := by
 obtain ⟨a, b⟩ := (bothB_iff l m).1 hb
 obtain ⟨⟨S1, p1⟩, _⟩ := met_env a
 obtain ⟨_, ⟨T2, p2⟩, _⟩ := met_env b
 have o1 := hasP_ok l _ _ p1
 have o2 := hasP_ok m _ _ p2
 have M0 : ¬ relM l m = 0 := fun e => (relM_zero ho).1 e ⟨a, b⟩
 unfold mustB
 rw [ho, decide_eq_true M0, Bool.true_and, Bool.true_and]
 have key : bits .andNot .i64 ((relM l m : Nat) : Int) 3 = 0 ↔ cerO l m = true := by
  rw [bits_out (relM_lt l m) 3, cerO_iff]
  constructor
  ·intro h
   refine ⟨⟨a, b⟩, ?_⟩
   have rr := rel_range S1 (envF dGE max l).1 (envF dLS min m).1 T2
   have t := (relM_bit ho (r := (rel S1 (envF dGE max l).1 (envF dLS min m).1 T2).toNat) (by omega)).2 ⟨_, _, _, _, p1, p2, by omega⟩
   have q := h _ (by omega) t
   have : (rel S1 (envF dGE max l).1 (envF dLS min m).1 T2).toNat = 0 ∨ (rel S1 (envF dGE max l).1 (envF dLS min m).1 T2).toNat = 1 := by
    have xr : (rel S1 (envF dGE max l).1 (envF dLS min m).1 T2).toNat ≤ 12 := by omega
    generalize (rel S1 (envF dGE max l).1 (envF dLS min m).1 T2).toNat = x at *
    obtain rfl | rfl | rfl | rfl | rfl | rfl | rfl | rfl | rfl | rfl | rfl | rfl | rfl : x = 0 ∨ x = 1 ∨ x = 2 ∨ x = 3 ∨ x = 4 ∨ x = 5 ∨ x = 6 ∨ x = 7 ∨ x = 8 ∨ x = 9 ∨ x = 10 ∨ x = 11 ∨ x = 12 := by omega
    all_goals first | exact .inl rfl | exact .inr rfl | exact absurd q (by decide)
   exact (rel_ahead o1.2.1 o2.2.1).1 (by omega)
  ·rintro ⟨_, c⟩ j hj hbit
   obtain ⟨S, T, X, Y, g1, g2, e⟩ := (relM_bit ho hj).1 hbit
   have b1 := hasL_bound g1
   have b2 := hasL_bound g2
   have o3 := hasP_ok l _ _ g1
   have o4 := hasP_ok m _ _ g2
   have q := (rel_ahead o3.2.1 o4.2.1).2 (by omega)
   have : j = 0 ∨ j = 1 := by omega
   rcases this with rfl | rfl <;> decide
 cases h : cerO l m with
 | true => exact decide_eq_true (key.2 h)
 | false => exact decide_eq_false (fun e => by rw [key.1 e] at h; cases h)
theorem pos_can {l m : List LF} (ho : relOk l m = true) (hb : bothB l m = true) : (canB l m 0 || canB l m 1) = posO l m := by
 obtain ⟨a, b⟩ := (bothB_iff l m).1 hb
 obtain ⟨_, _, ⟨S3, p1⟩, _⟩ := met_env a
 obtain ⟨_, _, _, ⟨T4, p2⟩⟩ := met_env b
 have o1 := hasP_ok l _ _ p1
 have o2 := hasP_ok m _ _ p2
 have e0 : canB l m 0 = (relM l m).testBit 0 := canB_bit l m 0 (by decide)
 have e1 : canB l m 1 = (relM l m).testBit 1 := canB_bit l m 1 (by decide)
 rw [e0, e1]
 have key : ((relM l m).testBit 0 = true ∨ (relM l m).testBit 1 = true) ↔ posO l m = true := by
  rw [relM_bit ho (by decide), relM_bit ho (by decide), posO_iff]
  constructor
  ·intro h
   refine ⟨⟨a, b⟩, ?_⟩
   obtain ⟨S, T, X, Y, g1, g2, q⟩ : ∃ S T X Y, hasP l S T ∧ hasP m X Y ∧ (rel S T X Y = 0 ∨ rel S T X Y = 1) := by
    rcases h with ⟨S, T, X, Y, g1, g2, q⟩ | ⟨S, T, X, Y, g1, g2, q⟩
    ·exact ⟨S, T, X, Y, g1, g2, .inl q⟩
    ·exact ⟨S, T, X, Y, g1, g2, .inr q⟩
   have b1 := hasL_bound g1
   have b2 := hasL_bound g2
   have o3 := hasP_ok l _ _ g1
   have o4 := hasP_ok m _ _ g2
   have := (rel_ahead o3.2.1 o4.2.1).1 q
   omega
  ·rintro ⟨_, c⟩
   rcases (rel_ahead o1.2.1 o2.2.1).2 c with q | q
   ·exact .inl ⟨_, _, _, _, p1, p2, q⟩
   ·exact .inr ⟨_, _, _, _, p1, p2, q⟩
 cases h : posO l m with
 | true =>
  have := key.2 h
  rw [Bool.or_eq_true]
  exact this
 | false =>
  rw [Bool.or_eq_false_iff]
  refine ⟨?_, ?_⟩
  ·rw [Bool.eq_false_iff]; intro e; rw [key.1 (.inl e)] at h; cases h
  ·rw [Bool.eq_false_iff]; intro e; rw [key.1 (.inr e)] at h; cases h
theorem orderRelates_walk (vl : Value) (l : List LF) (vm : Value) (m : List LF) (w : World) (rl : LeavesAt w vl l) (gl : ∀ f ∈ l, LeafG f) (rm : LeavesAt w vm m) (gm : ∀ f ∈ m, LeafG f) (T : Tabs20 w) :
  Calls Tryz.prog 4 #[vl, vm] w fun e w' => e = .returned (.bool true) ∧ Kp w w' := by
 have CA := Lib.hid (fun w1 (k : Kp w w1) => awake21 w1 (T.kp k).1)
 have CF := Lib.hid (fun w1 (k : Kp w w1) => fewL_any _ l w1 (rl.kp k))
 have CG := Lib.hid (fun w1 (k : Kp w w1) => fewL_any _ m w1 (rm.kp k))
 have OKL := Lib.hid (fun h => fewL_ok (l := l) h gl)
 have OKM := Lib.hid (fun h => fewL_ok (l := m) h gm)
 generalize fewL l = fl at *
 generalize fewL m = fm at *
 obtain ⟨adl, cal, rfl⟩ := rl.slice
 obtain ⟨adm, cam, rfl⟩ := rm.slice
 obtain ⟨W0, hW⟩ : ∃ W0, W0 = w := ⟨_, rfl⟩
 subst hW
 have K00 := Lib.hid (Kp.refl W0)
 have K0 := Lib.hid (Kp.refl W0)
 cases fl with
 | false =>
  clear rl rm T gl gm OKL OKM
  go_enter Tryz.func4, Tryz.ntmps4
  go_wp2_with fail
  refine (CA.out _ (K00.out.trans (by first | with_reducible exact K0.out | with_reducible exact K0.out.trans (Kp.alloc _ _) | with_reducible exact (K0.out.trans (Kp.alloc _ _)).trans (Kp.alloc _ _) | with_reducible exact K0.out.trans (Kp.drew _) | with_reducible exact K0.out.trans (Kp.drewN _ _)))).mono ?_
  rintro e w1 ⟨rfl, kk⟩
  have K1 := Lib.hid ((show Kp W0 _ from (by first | with_reducible exact K0.out | with_reducible exact K0.out.trans (Kp.alloc _ _) | with_reducible exact (K0.out.trans (Kp.alloc _ _)).trans (Kp.alloc _ _) | with_reducible exact K0.out.trans (Kp.drew _) | with_reducible exact K0.out.trans (Kp.drewN _ _))).trans kk)
  clear kk
  go_wp2_with fail
  refine (CF.out _ (K00.out.trans (by first | with_reducible exact K1.out | with_reducible exact K1.out.trans (Kp.alloc _ _) | with_reducible exact (K1.out.trans (Kp.alloc _ _)).trans (Kp.alloc _ _) | with_reducible exact K1.out.trans (Kp.drew _) | with_reducible exact K1.out.trans (Kp.drewN _ _)))).mono ?_
  rintro e w2 ⟨rfl, kk⟩
  have K2 := Lib.hid ((show Kp W0 _ from (by first | with_reducible exact K1.out | with_reducible exact K1.out.trans (Kp.alloc _ _) | with_reducible exact (K1.out.trans (Kp.alloc _ _)).trans (Kp.alloc _ _) | with_reducible exact K1.out.trans (Kp.drew _) | with_reducible exact K1.out.trans (Kp.drewN _ _))).trans kk)
  clear kk
  go_wp2
  go_ret
  exact ⟨rfl, K00.out.trans K2.out⟩
 | true =>
  obtain ⟨ol, nl⟩ := OKL.out (by first | rfl | trivial)
  cases fm with
  | false =>
   clear rl rm T gl gm OKL OKM ol nl
   go_enter Tryz.func4, Tryz.ntmps4
   go_wp2_with fail
   refine (CA.out _ (K00.out.trans (by first | with_reducible exact K0.out | with_reducible exact K0.out.trans (Kp.alloc _ _) | with_reducible exact (K0.out.trans (Kp.alloc _ _)).trans (Kp.alloc _ _) | with_reducible exact K0.out.trans (Kp.drew _) | with_reducible exact K0.out.trans (Kp.drewN _ _)))).mono ?_
   rintro e w1 ⟨rfl, kk⟩
   have K1 := Lib.hid ((show Kp W0 _ from (by first | with_reducible exact K0.out | with_reducible exact K0.out.trans (Kp.alloc _ _) | with_reducible exact (K0.out.trans (Kp.alloc _ _)).trans (Kp.alloc _ _) | with_reducible exact K0.out.trans (Kp.drew _) | with_reducible exact K0.out.trans (Kp.drewN _ _))).trans kk)
   clear kk
   go_wp2_with fail
   refine (CF.out _ (K00.out.trans (by first | with_reducible exact K1.out | with_reducible exact K1.out.trans (Kp.alloc _ _) | with_reducible exact (K1.out.trans (Kp.alloc _ _)).trans (Kp.alloc _ _) | with_reducible exact K1.out.trans (Kp.drew _) | with_reducible exact K1.out.trans (Kp.drewN _ _)))).mono ?_
   rintro e w2 ⟨rfl, kk⟩
   have K2 := Lib.hid ((show Kp W0 _ from (by first | with_reducible exact K1.out | with_reducible exact K1.out.trans (Kp.alloc _ _) | with_reducible exact (K1.out.trans (Kp.alloc _ _)).trans (Kp.alloc _ _) | with_reducible exact K1.out.trans (Kp.drew _) | with_reducible exact K1.out.trans (Kp.drewN _ _))).trans kk)
   clear kk
   go_wp2_with fail
   refine (CG.out _ (K00.out.trans (by first | with_reducible exact K2.out | with_reducible exact K2.out.trans (Kp.alloc _ _) | with_reducible exact (K2.out.trans (Kp.alloc _ _)).trans (Kp.alloc _ _) | with_reducible exact K2.out.trans (Kp.drew _) | with_reducible exact K2.out.trans (Kp.drewN _ _)))).mono ?_
   rintro e w3 ⟨rfl, kk⟩
   have K3 := Lib.hid ((show Kp W0 _ from (by first | with_reducible exact K2.out | with_reducible exact K2.out.trans (Kp.alloc _ _) | with_reducible exact (K2.out.trans (Kp.alloc _ _)).trans (Kp.alloc _ _) | with_reducible exact K2.out.trans (Kp.drew _) | with_reducible exact K2.out.trans (Kp.drewN _ _))).trans kk)
   clear kk
   go_wp2
   go_ret
   exact ⟨rfl, K00.out.trans K3.out⟩
  | true =>
   obtain ⟨om, nm⟩ := OKM.out (by first | rfl | trivial)
   have U1 := Lib.hid (fun w1 (k : Kp W0 w1) => units20_any _ l w1 (rl.kp k) ol (by omega))
   have U2 := Lib.hid (fun w1 (k : Kp W0 w1) => units20_any _ m w1 (rm.kp k) om (by omega))
   have C1 := Lib.hid (fun w1 (k : Kp W0 w1) => relations_any _ _ l m w1 (rl.kp k) (rm.kp k) ol om (by omega) (by omega) (T.kp k).1)
   have CC := Lib.hid (fun w1 (k : Kp W0 w1) => ordCertainly_any _ _ l m w1 (rl.kp k) (rm.kp k) ol om (T.kp k).1)
   have CP := Lib.hid (fun w1 (k : Kp W0 w1) => ordPossibly_any _ _ l m w1 (rl.kp k) (rm.kp k) ol om (T.kp k).1)
   have CM := Lib.hid (fun w1 (k : Kp W0 w1) => must_any _ _ l m 3 w1 (rl.kp k) (rm.kp k) ol om (by omega) (by omega) (T.kp k))
   have CN := Lib.hid (fun r w1 (k : Kp W0 w1) => can_any _ _ l m r w1 (rl.kp k) (rm.kp k) ol om (by omega) (by omega) (T.kp k))
   have N0 := Lib.hid (CN.out 0)
   have N1 := Lib.hid (CN.out 1)
   have RE : relE l m = if relOk l m = true then 0 else 8 := rfl
   have EB : erE (bothB l m) = if bothB l m = true then 0 else 9 := rfl
   have CB : bothB l m = false → cerO l m = false ∧ posO l m = false := fun h => by
    constructor
    ·rw [Bool.eq_false_iff]; intro e
     have := (bothB_iff l m).2 ((cerO_iff l m).1 e).1
     rw [h] at this; cases this
    ·rw [Bool.eq_false_iff]; intro e
     have := (bothB_iff l m).2 ((posO_iff l m).1 e).1
     rw [h] at this; cases this
   have MC := fun h1 h2 => cer_must (l := l) (m := m) h1 h2
   have PC := fun h1 h2 => pos_can (l := l) (m := m) h1 h2
   clear rl rm T gl gm OKL OKM ol nl om nm CN
   by_cases v1 : unitsN l > 60
   ·have ul1 : decide (unitsN l > 60) = true := decide_eq_true (by omega)
    have ul2 : decide (60 < unitsN l) = true := decide_eq_true (by omega)
    clear RE EB CB MC PC v1
    generalize unitsN l = ul at *
    go_enter Tryz.func4, Tryz.ntmps4
    go_wp2_with fail
    refine (CA.out _ (K00.out.trans (by first | with_reducible exact K0.out | with_reducible exact K0.out.trans (Kp.alloc _ _) | with_reducible exact (K0.out.trans (Kp.alloc _ _)).trans (Kp.alloc _ _) | with_reducible exact K0.out.trans (Kp.drew _) | with_reducible exact K0.out.trans (Kp.drewN _ _)))).mono ?_
    rintro e w1 ⟨rfl, kk⟩
    have K1 := Lib.hid ((show Kp W0 _ from (by first | with_reducible exact K0.out | with_reducible exact K0.out.trans (Kp.alloc _ _) | with_reducible exact (K0.out.trans (Kp.alloc _ _)).trans (Kp.alloc _ _) | with_reducible exact K0.out.trans (Kp.drew _) | with_reducible exact K0.out.trans (Kp.drewN _ _))).trans kk)
    clear kk
    go_wp2_with fail
    refine (CF.out _ (K00.out.trans (by first | with_reducible exact K1.out | with_reducible exact K1.out.trans (Kp.alloc _ _) | with_reducible exact (K1.out.trans (Kp.alloc _ _)).trans (Kp.alloc _ _) | with_reducible exact K1.out.trans (Kp.drew _) | with_reducible exact K1.out.trans (Kp.drewN _ _)))).mono ?_
    rintro e w2 ⟨rfl, kk⟩
    have K2 := Lib.hid ((show Kp W0 _ from (by first | with_reducible exact K1.out | with_reducible exact K1.out.trans (Kp.alloc _ _) | with_reducible exact (K1.out.trans (Kp.alloc _ _)).trans (Kp.alloc _ _) | with_reducible exact K1.out.trans (Kp.drew _) | with_reducible exact K1.out.trans (Kp.drewN _ _))).trans kk)
    clear kk
    go_wp2_with fail
    refine (CG.out _ (K00.out.trans (by first | with_reducible exact K2.out | with_reducible exact K2.out.trans (Kp.alloc _ _) | with_reducible exact (K2.out.trans (Kp.alloc _ _)).trans (Kp.alloc _ _) | with_reducible exact K2.out.trans (Kp.drew _) | with_reducible exact K2.out.trans (Kp.drewN _ _)))).mono ?_
    rintro e w3 ⟨rfl, kk⟩
    have K3 := Lib.hid ((show Kp W0 _ from (by first | with_reducible exact K2.out | with_reducible exact K2.out.trans (Kp.alloc _ _) | with_reducible exact (K2.out.trans (Kp.alloc _ _)).trans (Kp.alloc _ _) | with_reducible exact K2.out.trans (Kp.drew _) | with_reducible exact K2.out.trans (Kp.drewN _ _))).trans kk)
    clear kk
    go_wp2_with fail
    refine (U1.out _ (K00.out.trans (by first | with_reducible exact K3.out | with_reducible exact K3.out.trans (Kp.alloc _ _) | with_reducible exact (K3.out.trans (Kp.alloc _ _)).trans (Kp.alloc _ _) | with_reducible exact K3.out.trans (Kp.drew _) | with_reducible exact K3.out.trans (Kp.drewN _ _)))).mono ?_
    rintro e w4 ⟨rfl, kk⟩
    have K4 := Lib.hid ((show Kp W0 _ from (by first | with_reducible exact K3.out | with_reducible exact K3.out.trans (Kp.alloc _ _) | with_reducible exact (K3.out.trans (Kp.alloc _ _)).trans (Kp.alloc _ _) | with_reducible exact K3.out.trans (Kp.drew _) | with_reducible exact K3.out.trans (Kp.drewN _ _))).trans kk)
    clear kk
    go_wp2
    go_ret
    exact ⟨rfl, K00.out.trans K4.out⟩
   ·by_cases v2 : unitsN m > 60
    ·have ul1 : decide (unitsN l > 60) = false := decide_eq_false (by omega)
     have ul2 : decide (60 < unitsN l) = false := decide_eq_false (by omega)
     have um1 : decide (unitsN m > 60) = true := decide_eq_true (by omega)
     have um2 : decide (60 < unitsN m) = true := decide_eq_true (by omega)
     clear RE EB CB MC PC v1 v2
     generalize unitsN l = ul at *
     generalize unitsN m = um at *
     go_enter Tryz.func4, Tryz.ntmps4
     go_wp2_with fail
     refine (CA.out _ (K00.out.trans (by first | with_reducible exact K0.out | with_reducible exact K0.out.trans (Kp.alloc _ _) | with_reducible exact (K0.out.trans (Kp.alloc _ _)).trans (Kp.alloc _ _) | with_reducible exact K0.out.trans (Kp.drew _) | with_reducible exact K0.out.trans (Kp.drewN _ _)))).mono ?_
     rintro e w1 ⟨rfl, kk⟩
     have K1 := Lib.hid ((show Kp W0 _ from (by first | with_reducible exact K0.out | with_reducible exact K0.out.trans (Kp.alloc _ _) | with_reducible exact (K0.out.trans (Kp.alloc _ _)).trans (Kp.alloc _ _) | with_reducible exact K0.out.trans (Kp.drew _) | with_reducible exact K0.out.trans (Kp.drewN _ _))).trans kk)
     clear kk
     go_wp2_with fail
     refine (CF.out _ (K00.out.trans (by first | with_reducible exact K1.out | with_reducible exact K1.out.trans (Kp.alloc _ _) | with_reducible exact (K1.out.trans (Kp.alloc _ _)).trans (Kp.alloc _ _) | with_reducible exact K1.out.trans (Kp.drew _) | with_reducible exact K1.out.trans (Kp.drewN _ _)))).mono ?_
     rintro e w2 ⟨rfl, kk⟩
     have K2 := Lib.hid ((show Kp W0 _ from (by first | with_reducible exact K1.out | with_reducible exact K1.out.trans (Kp.alloc _ _) | with_reducible exact (K1.out.trans (Kp.alloc _ _)).trans (Kp.alloc _ _) | with_reducible exact K1.out.trans (Kp.drew _) | with_reducible exact K1.out.trans (Kp.drewN _ _))).trans kk)
     clear kk
     go_wp2_with fail
     refine (CG.out _ (K00.out.trans (by first | with_reducible exact K2.out | with_reducible exact K2.out.trans (Kp.alloc _ _) | with_reducible exact (K2.out.trans (Kp.alloc _ _)).trans (Kp.alloc _ _) | with_reducible exact K2.out.trans (Kp.drew _) | with_reducible exact K2.out.trans (Kp.drewN _ _)))).mono ?_
     rintro e w3 ⟨rfl, kk⟩
     have K3 := Lib.hid ((show Kp W0 _ from (by first | with_reducible exact K2.out | with_reducible exact K2.out.trans (Kp.alloc _ _) | with_reducible exact (K2.out.trans (Kp.alloc _ _)).trans (Kp.alloc _ _) | with_reducible exact K2.out.trans (Kp.drew _) | with_reducible exact K2.out.trans (Kp.drewN _ _))).trans kk)
     clear kk
     go_wp2_with fail
     refine (U1.out _ (K00.out.trans (by first | with_reducible exact K3.out | with_reducible exact K3.out.trans (Kp.alloc _ _) | with_reducible exact (K3.out.trans (Kp.alloc _ _)).trans (Kp.alloc _ _) | with_reducible exact K3.out.trans (Kp.drew _) | with_reducible exact K3.out.trans (Kp.drewN _ _)))).mono ?_
     rintro e w4 ⟨rfl, kk⟩
     have K4 := Lib.hid ((show Kp W0 _ from (by first | with_reducible exact K3.out | with_reducible exact K3.out.trans (Kp.alloc _ _) | with_reducible exact (K3.out.trans (Kp.alloc _ _)).trans (Kp.alloc _ _) | with_reducible exact K3.out.trans (Kp.drew _) | with_reducible exact K3.out.trans (Kp.drewN _ _))).trans kk)
     clear kk
     go_wp2_with fail
     refine (U2.out _ (K00.out.trans (by first | with_reducible exact K4.out | with_reducible exact K4.out.trans (Kp.alloc _ _) | with_reducible exact (K4.out.trans (Kp.alloc _ _)).trans (Kp.alloc _ _) | with_reducible exact K4.out.trans (Kp.drew _) | with_reducible exact K4.out.trans (Kp.drewN _ _)))).mono ?_
     rintro e w5 ⟨rfl, kk⟩
     have K5 := Lib.hid ((show Kp W0 _ from (by first | with_reducible exact K4.out | with_reducible exact K4.out.trans (Kp.alloc _ _) | with_reducible exact (K4.out.trans (Kp.alloc _ _)).trans (Kp.alloc _ _) | with_reducible exact K4.out.trans (Kp.drew _) | with_reducible exact K4.out.trans (Kp.drewN _ _))).trans kk)
     clear kk
     go_wp2
     go_ret
     exact ⟨rfl, K00.out.trans K5.out⟩
    ·have ul1 : decide (unitsN l > 60) = false := decide_eq_false (by omega)
     have ul2 : decide (60 < unitsN l) = false := decide_eq_false (by omega)
     have um1 : decide (unitsN m > 60) = false := decide_eq_false (by omega)
     have um2 : decide (60 < unitsN m) = false := decide_eq_false (by omega)
     clear v1 v2
     cases hb : bothB l m with
     | false =>
      obtain ⟨c0, p0⟩ := CB hb
      rw [hb, if_neg Bool.false_ne_true] at EB
      rw [hb, EB, c0] at CC
      rw [hb, EB, p0] at CP
      clear CB MC PC EB c0 p0 hb
      cases ho : relOk l m with
      | false =>
       rw [ho, if_neg Bool.false_ne_true] at RE
       rw [RE] at C1
       clear RE ho
       generalize unitsN l = ul at *
       generalize unitsN m = um at *
       generalize relM l m = M at *
       go_enter Tryz.func4, Tryz.ntmps4
       go_wp2_with fail
       refine (CA.out _ (K00.out.trans (by first | with_reducible exact K0.out | with_reducible exact K0.out.trans (Kp.alloc _ _) | with_reducible exact (K0.out.trans (Kp.alloc _ _)).trans (Kp.alloc _ _) | with_reducible exact K0.out.trans (Kp.drew _) | with_reducible exact K0.out.trans (Kp.drewN _ _)))).mono ?_
       rintro e w1 ⟨rfl, kk⟩
       have K1 := Lib.hid ((show Kp W0 _ from (by first | with_reducible exact K0.out | with_reducible exact K0.out.trans (Kp.alloc _ _) | with_reducible exact (K0.out.trans (Kp.alloc _ _)).trans (Kp.alloc _ _) | with_reducible exact K0.out.trans (Kp.drew _) | with_reducible exact K0.out.trans (Kp.drewN _ _))).trans kk)
       clear kk
       go_wp2_with fail
       refine (CF.out _ (K00.out.trans (by first | with_reducible exact K1.out | with_reducible exact K1.out.trans (Kp.alloc _ _) | with_reducible exact (K1.out.trans (Kp.alloc _ _)).trans (Kp.alloc _ _) | with_reducible exact K1.out.trans (Kp.drew _) | with_reducible exact K1.out.trans (Kp.drewN _ _)))).mono ?_
       rintro e w2 ⟨rfl, kk⟩
       have K2 := Lib.hid ((show Kp W0 _ from (by first | with_reducible exact K1.out | with_reducible exact K1.out.trans (Kp.alloc _ _) | with_reducible exact (K1.out.trans (Kp.alloc _ _)).trans (Kp.alloc _ _) | with_reducible exact K1.out.trans (Kp.drew _) | with_reducible exact K1.out.trans (Kp.drewN _ _))).trans kk)
       clear kk
       go_wp2_with fail
       refine (CG.out _ (K00.out.trans (by first | with_reducible exact K2.out | with_reducible exact K2.out.trans (Kp.alloc _ _) | with_reducible exact (K2.out.trans (Kp.alloc _ _)).trans (Kp.alloc _ _) | with_reducible exact K2.out.trans (Kp.drew _) | with_reducible exact K2.out.trans (Kp.drewN _ _)))).mono ?_
       rintro e w3 ⟨rfl, kk⟩
       have K3 := Lib.hid ((show Kp W0 _ from (by first | with_reducible exact K2.out | with_reducible exact K2.out.trans (Kp.alloc _ _) | with_reducible exact (K2.out.trans (Kp.alloc _ _)).trans (Kp.alloc _ _) | with_reducible exact K2.out.trans (Kp.drew _) | with_reducible exact K2.out.trans (Kp.drewN _ _))).trans kk)
       clear kk
       go_wp2_with fail
       refine (U1.out _ (K00.out.trans (by first | with_reducible exact K3.out | with_reducible exact K3.out.trans (Kp.alloc _ _) | with_reducible exact (K3.out.trans (Kp.alloc _ _)).trans (Kp.alloc _ _) | with_reducible exact K3.out.trans (Kp.drew _) | with_reducible exact K3.out.trans (Kp.drewN _ _)))).mono ?_
       rintro e w4 ⟨rfl, kk⟩
       have K4 := Lib.hid ((show Kp W0 _ from (by first | with_reducible exact K3.out | with_reducible exact K3.out.trans (Kp.alloc _ _) | with_reducible exact (K3.out.trans (Kp.alloc _ _)).trans (Kp.alloc _ _) | with_reducible exact K3.out.trans (Kp.drew _) | with_reducible exact K3.out.trans (Kp.drewN _ _))).trans kk)
       clear kk
       go_wp2_with fail
       refine (U2.out _ (K00.out.trans (by first | with_reducible exact K4.out | with_reducible exact K4.out.trans (Kp.alloc _ _) | with_reducible exact (K4.out.trans (Kp.alloc _ _)).trans (Kp.alloc _ _) | with_reducible exact K4.out.trans (Kp.drew _) | with_reducible exact K4.out.trans (Kp.drewN _ _)))).mono ?_
       rintro e w5 ⟨rfl, kk⟩
       have K5 := Lib.hid ((show Kp W0 _ from (by first | with_reducible exact K4.out | with_reducible exact K4.out.trans (Kp.alloc _ _) | with_reducible exact (K4.out.trans (Kp.alloc _ _)).trans (Kp.alloc _ _) | with_reducible exact K4.out.trans (Kp.drew _) | with_reducible exact K4.out.trans (Kp.drewN _ _))).trans kk)
       clear kk
       go_wp2_with fail
       refine (C1.out _ (K00.out.trans (by first | with_reducible exact K5.out | with_reducible exact K5.out.trans (Kp.alloc _ _) | with_reducible exact (K5.out.trans (Kp.alloc _ _)).trans (Kp.alloc _ _) | with_reducible exact K5.out.trans (Kp.drew _) | with_reducible exact K5.out.trans (Kp.drewN _ _)))).mono ?_
       rintro e w6 ⟨rfl, kk⟩
       have K6 := Lib.hid ((show Kp W0 _ from (by first | with_reducible exact K5.out | with_reducible exact K5.out.trans (Kp.alloc _ _) | with_reducible exact (K5.out.trans (Kp.alloc _ _)).trans (Kp.alloc _ _) | with_reducible exact K5.out.trans (Kp.drew _) | with_reducible exact K5.out.trans (Kp.drewN _ _))).trans kk)
       clear kk
       go_wp2_with fail
       refine (CC.out _ (K00.out.trans (by first | with_reducible exact K6.out | with_reducible exact K6.out.trans (Kp.alloc _ _) | with_reducible exact (K6.out.trans (Kp.alloc _ _)).trans (Kp.alloc _ _) | with_reducible exact K6.out.trans (Kp.drew _) | with_reducible exact K6.out.trans (Kp.drewN _ _)))).mono ?_
       rintro e w7 ⟨rfl, kk⟩
       have K7 := Lib.hid ((show Kp W0 _ from (by first | with_reducible exact K6.out | with_reducible exact K6.out.trans (Kp.alloc _ _) | with_reducible exact (K6.out.trans (Kp.alloc _ _)).trans (Kp.alloc _ _) | with_reducible exact K6.out.trans (Kp.drew _) | with_reducible exact K6.out.trans (Kp.drewN _ _))).trans kk)
       clear kk
       go_wp2_with fail
       refine (CP.out _ (K00.out.trans (by first | with_reducible exact K7.out | with_reducible exact K7.out.trans (Kp.alloc _ _) | with_reducible exact (K7.out.trans (Kp.alloc _ _)).trans (Kp.alloc _ _) | with_reducible exact K7.out.trans (Kp.drew _) | with_reducible exact K7.out.trans (Kp.drewN _ _)))).mono ?_
       rintro e w8 ⟨rfl, kk⟩
       have K8 := Lib.hid ((show Kp W0 _ from (by first | with_reducible exact K7.out | with_reducible exact K7.out.trans (Kp.alloc _ _) | with_reducible exact (K7.out.trans (Kp.alloc _ _)).trans (Kp.alloc _ _) | with_reducible exact K7.out.trans (Kp.drew _) | with_reducible exact K7.out.trans (Kp.drewN _ _))).trans kk)
       clear kk
       go_wp2
       go_ret
       exact ⟨rfl, K00.out.trans K8.out⟩
      | true =>
       rw [ho, if_pos rfl] at RE
       rw [RE] at C1
       clear RE ho
       generalize unitsN l = ul at *
       generalize unitsN m = um at *
       generalize relM l m = M at *
       go_enter Tryz.func4, Tryz.ntmps4
       go_wp2_with fail
       refine (CA.out _ (K00.out.trans (by first | with_reducible exact K0.out | with_reducible exact K0.out.trans (Kp.alloc _ _) | with_reducible exact (K0.out.trans (Kp.alloc _ _)).trans (Kp.alloc _ _) | with_reducible exact K0.out.trans (Kp.drew _) | with_reducible exact K0.out.trans (Kp.drewN _ _)))).mono ?_
       rintro e w1 ⟨rfl, kk⟩
       have K1 := Lib.hid ((show Kp W0 _ from (by first | with_reducible exact K0.out | with_reducible exact K0.out.trans (Kp.alloc _ _) | with_reducible exact (K0.out.trans (Kp.alloc _ _)).trans (Kp.alloc _ _) | with_reducible exact K0.out.trans (Kp.drew _) | with_reducible exact K0.out.trans (Kp.drewN _ _))).trans kk)
       clear kk
       go_wp2_with fail
       refine (CF.out _ (K00.out.trans (by first | with_reducible exact K1.out | with_reducible exact K1.out.trans (Kp.alloc _ _) | with_reducible exact (K1.out.trans (Kp.alloc _ _)).trans (Kp.alloc _ _) | with_reducible exact K1.out.trans (Kp.drew _) | with_reducible exact K1.out.trans (Kp.drewN _ _)))).mono ?_
       rintro e w2 ⟨rfl, kk⟩
       have K2 := Lib.hid ((show Kp W0 _ from (by first | with_reducible exact K1.out | with_reducible exact K1.out.trans (Kp.alloc _ _) | with_reducible exact (K1.out.trans (Kp.alloc _ _)).trans (Kp.alloc _ _) | with_reducible exact K1.out.trans (Kp.drew _) | with_reducible exact K1.out.trans (Kp.drewN _ _))).trans kk)
       clear kk
       go_wp2_with fail
       refine (CG.out _ (K00.out.trans (by first | with_reducible exact K2.out | with_reducible exact K2.out.trans (Kp.alloc _ _) | with_reducible exact (K2.out.trans (Kp.alloc _ _)).trans (Kp.alloc _ _) | with_reducible exact K2.out.trans (Kp.drew _) | with_reducible exact K2.out.trans (Kp.drewN _ _)))).mono ?_
       rintro e w3 ⟨rfl, kk⟩
       have K3 := Lib.hid ((show Kp W0 _ from (by first | with_reducible exact K2.out | with_reducible exact K2.out.trans (Kp.alloc _ _) | with_reducible exact (K2.out.trans (Kp.alloc _ _)).trans (Kp.alloc _ _) | with_reducible exact K2.out.trans (Kp.drew _) | with_reducible exact K2.out.trans (Kp.drewN _ _))).trans kk)
       clear kk
       go_wp2_with fail
       refine (U1.out _ (K00.out.trans (by first | with_reducible exact K3.out | with_reducible exact K3.out.trans (Kp.alloc _ _) | with_reducible exact (K3.out.trans (Kp.alloc _ _)).trans (Kp.alloc _ _) | with_reducible exact K3.out.trans (Kp.drew _) | with_reducible exact K3.out.trans (Kp.drewN _ _)))).mono ?_
       rintro e w4 ⟨rfl, kk⟩
       have K4 := Lib.hid ((show Kp W0 _ from (by first | with_reducible exact K3.out | with_reducible exact K3.out.trans (Kp.alloc _ _) | with_reducible exact (K3.out.trans (Kp.alloc _ _)).trans (Kp.alloc _ _) | with_reducible exact K3.out.trans (Kp.drew _) | with_reducible exact K3.out.trans (Kp.drewN _ _))).trans kk)
       clear kk
       go_wp2_with fail
       refine (U2.out _ (K00.out.trans (by first | with_reducible exact K4.out | with_reducible exact K4.out.trans (Kp.alloc _ _) | with_reducible exact (K4.out.trans (Kp.alloc _ _)).trans (Kp.alloc _ _) | with_reducible exact K4.out.trans (Kp.drew _) | with_reducible exact K4.out.trans (Kp.drewN _ _)))).mono ?_
       rintro e w5 ⟨rfl, kk⟩
       have K5 := Lib.hid ((show Kp W0 _ from (by first | with_reducible exact K4.out | with_reducible exact K4.out.trans (Kp.alloc _ _) | with_reducible exact (K4.out.trans (Kp.alloc _ _)).trans (Kp.alloc _ _) | with_reducible exact K4.out.trans (Kp.drew _) | with_reducible exact K4.out.trans (Kp.drewN _ _))).trans kk)
       clear kk
       go_wp2_with fail
       refine (C1.out _ (K00.out.trans (by first | with_reducible exact K5.out | with_reducible exact K5.out.trans (Kp.alloc _ _) | with_reducible exact (K5.out.trans (Kp.alloc _ _)).trans (Kp.alloc _ _) | with_reducible exact K5.out.trans (Kp.drew _) | with_reducible exact K5.out.trans (Kp.drewN _ _)))).mono ?_
       rintro e w6 ⟨rfl, kk⟩
       have K6 := Lib.hid ((show Kp W0 _ from (by first | with_reducible exact K5.out | with_reducible exact K5.out.trans (Kp.alloc _ _) | with_reducible exact (K5.out.trans (Kp.alloc _ _)).trans (Kp.alloc _ _) | with_reducible exact K5.out.trans (Kp.drew _) | with_reducible exact K5.out.trans (Kp.drewN _ _))).trans kk)
       clear kk
       go_wp2_with fail
       refine (CC.out _ (K00.out.trans (by first | with_reducible exact K6.out | with_reducible exact K6.out.trans (Kp.alloc _ _) | with_reducible exact (K6.out.trans (Kp.alloc _ _)).trans (Kp.alloc _ _) | with_reducible exact K6.out.trans (Kp.drew _) | with_reducible exact K6.out.trans (Kp.drewN _ _)))).mono ?_
       rintro e w7 ⟨rfl, kk⟩
       have K7 := Lib.hid ((show Kp W0 _ from (by first | with_reducible exact K6.out | with_reducible exact K6.out.trans (Kp.alloc _ _) | with_reducible exact (K6.out.trans (Kp.alloc _ _)).trans (Kp.alloc _ _) | with_reducible exact K6.out.trans (Kp.drew _) | with_reducible exact K6.out.trans (Kp.drewN _ _))).trans kk)
       clear kk
       go_wp2_with fail
       refine (CP.out _ (K00.out.trans (by first | with_reducible exact K7.out | with_reducible exact K7.out.trans (Kp.alloc _ _) | with_reducible exact (K7.out.trans (Kp.alloc _ _)).trans (Kp.alloc _ _) | with_reducible exact K7.out.trans (Kp.drew _) | with_reducible exact K7.out.trans (Kp.drewN _ _)))).mono ?_
       rintro e w8 ⟨rfl, kk⟩
       have K8 := Lib.hid ((show Kp W0 _ from (by first | with_reducible exact K7.out | with_reducible exact K7.out.trans (Kp.alloc _ _) | with_reducible exact (K7.out.trans (Kp.alloc _ _)).trans (Kp.alloc _ _) | with_reducible exact K7.out.trans (Kp.drew _) | with_reducible exact K7.out.trans (Kp.drewN _ _))).trans kk)
       clear kk
       go_wp2
       go_ret
       exact ⟨rfl, K00.out.trans K8.out⟩
     | true =>
      rw [hb, if_pos rfl] at EB
      rw [hb, EB] at CC CP
      cases ho : relOk l m with
      | false =>
       rw [ho, if_neg Bool.false_ne_true] at RE
       rw [RE] at C1
       generalize cerO l m = cc at *
       generalize posO l m = pp at *
       clear RE ho CB MC PC EB hb
       generalize unitsN l = ul at *
       generalize unitsN m = um at *
       generalize relM l m = M at *
       go_enter Tryz.func4, Tryz.ntmps4
       go_wp2_with fail
       refine (CA.out _ (K00.out.trans (by first | with_reducible exact K0.out | with_reducible exact K0.out.trans (Kp.alloc _ _) | with_reducible exact (K0.out.trans (Kp.alloc _ _)).trans (Kp.alloc _ _) | with_reducible exact K0.out.trans (Kp.drew _) | with_reducible exact K0.out.trans (Kp.drewN _ _)))).mono ?_
       rintro e w1 ⟨rfl, kk⟩
       have K1 := Lib.hid ((show Kp W0 _ from (by first | with_reducible exact K0.out | with_reducible exact K0.out.trans (Kp.alloc _ _) | with_reducible exact (K0.out.trans (Kp.alloc _ _)).trans (Kp.alloc _ _) | with_reducible exact K0.out.trans (Kp.drew _) | with_reducible exact K0.out.trans (Kp.drewN _ _))).trans kk)
       clear kk
       go_wp2_with fail
       refine (CF.out _ (K00.out.trans (by first | with_reducible exact K1.out | with_reducible exact K1.out.trans (Kp.alloc _ _) | with_reducible exact (K1.out.trans (Kp.alloc _ _)).trans (Kp.alloc _ _) | with_reducible exact K1.out.trans (Kp.drew _) | with_reducible exact K1.out.trans (Kp.drewN _ _)))).mono ?_
       rintro e w2 ⟨rfl, kk⟩
       have K2 := Lib.hid ((show Kp W0 _ from (by first | with_reducible exact K1.out | with_reducible exact K1.out.trans (Kp.alloc _ _) | with_reducible exact (K1.out.trans (Kp.alloc _ _)).trans (Kp.alloc _ _) | with_reducible exact K1.out.trans (Kp.drew _) | with_reducible exact K1.out.trans (Kp.drewN _ _))).trans kk)
       clear kk
       go_wp2_with fail
       refine (CG.out _ (K00.out.trans (by first | with_reducible exact K2.out | with_reducible exact K2.out.trans (Kp.alloc _ _) | with_reducible exact (K2.out.trans (Kp.alloc _ _)).trans (Kp.alloc _ _) | with_reducible exact K2.out.trans (Kp.drew _) | with_reducible exact K2.out.trans (Kp.drewN _ _)))).mono ?_
       rintro e w3 ⟨rfl, kk⟩
       have K3 := Lib.hid ((show Kp W0 _ from (by first | with_reducible exact K2.out | with_reducible exact K2.out.trans (Kp.alloc _ _) | with_reducible exact (K2.out.trans (Kp.alloc _ _)).trans (Kp.alloc _ _) | with_reducible exact K2.out.trans (Kp.drew _) | with_reducible exact K2.out.trans (Kp.drewN _ _))).trans kk)
       clear kk
       go_wp2_with fail
       refine (U1.out _ (K00.out.trans (by first | with_reducible exact K3.out | with_reducible exact K3.out.trans (Kp.alloc _ _) | with_reducible exact (K3.out.trans (Kp.alloc _ _)).trans (Kp.alloc _ _) | with_reducible exact K3.out.trans (Kp.drew _) | with_reducible exact K3.out.trans (Kp.drewN _ _)))).mono ?_
       rintro e w4 ⟨rfl, kk⟩
       have K4 := Lib.hid ((show Kp W0 _ from (by first | with_reducible exact K3.out | with_reducible exact K3.out.trans (Kp.alloc _ _) | with_reducible exact (K3.out.trans (Kp.alloc _ _)).trans (Kp.alloc _ _) | with_reducible exact K3.out.trans (Kp.drew _) | with_reducible exact K3.out.trans (Kp.drewN _ _))).trans kk)
       clear kk
       go_wp2_with fail
       refine (U2.out _ (K00.out.trans (by first | with_reducible exact K4.out | with_reducible exact K4.out.trans (Kp.alloc _ _) | with_reducible exact (K4.out.trans (Kp.alloc _ _)).trans (Kp.alloc _ _) | with_reducible exact K4.out.trans (Kp.drew _) | with_reducible exact K4.out.trans (Kp.drewN _ _)))).mono ?_
       rintro e w5 ⟨rfl, kk⟩
       have K5 := Lib.hid ((show Kp W0 _ from (by first | with_reducible exact K4.out | with_reducible exact K4.out.trans (Kp.alloc _ _) | with_reducible exact (K4.out.trans (Kp.alloc _ _)).trans (Kp.alloc _ _) | with_reducible exact K4.out.trans (Kp.drew _) | with_reducible exact K4.out.trans (Kp.drewN _ _))).trans kk)
       clear kk
       go_wp2_with fail
       refine (C1.out _ (K00.out.trans (by first | with_reducible exact K5.out | with_reducible exact K5.out.trans (Kp.alloc _ _) | with_reducible exact (K5.out.trans (Kp.alloc _ _)).trans (Kp.alloc _ _) | with_reducible exact K5.out.trans (Kp.drew _) | with_reducible exact K5.out.trans (Kp.drewN _ _)))).mono ?_
       rintro e w6 ⟨rfl, kk⟩
       have K6 := Lib.hid ((show Kp W0 _ from (by first | with_reducible exact K5.out | with_reducible exact K5.out.trans (Kp.alloc _ _) | with_reducible exact (K5.out.trans (Kp.alloc _ _)).trans (Kp.alloc _ _) | with_reducible exact K5.out.trans (Kp.drew _) | with_reducible exact K5.out.trans (Kp.drewN _ _))).trans kk)
       clear kk
       go_wp2_with fail
       refine (CC.out _ (K00.out.trans (by first | with_reducible exact K6.out | with_reducible exact K6.out.trans (Kp.alloc _ _) | with_reducible exact (K6.out.trans (Kp.alloc _ _)).trans (Kp.alloc _ _) | with_reducible exact K6.out.trans (Kp.drew _) | with_reducible exact K6.out.trans (Kp.drewN _ _)))).mono ?_
       rintro e w7 ⟨rfl, kk⟩
       have K7 := Lib.hid ((show Kp W0 _ from (by first | with_reducible exact K6.out | with_reducible exact K6.out.trans (Kp.alloc _ _) | with_reducible exact (K6.out.trans (Kp.alloc _ _)).trans (Kp.alloc _ _) | with_reducible exact K6.out.trans (Kp.drew _) | with_reducible exact K6.out.trans (Kp.drewN _ _))).trans kk)
       clear kk
       go_wp2_with fail
       refine (CP.out _ (K00.out.trans (by first | with_reducible exact K7.out | with_reducible exact K7.out.trans (Kp.alloc _ _) | with_reducible exact (K7.out.trans (Kp.alloc _ _)).trans (Kp.alloc _ _) | with_reducible exact K7.out.trans (Kp.drew _) | with_reducible exact K7.out.trans (Kp.drewN _ _)))).mono ?_
       rintro e w8 ⟨rfl, kk⟩
       have K8 := Lib.hid ((show Kp W0 _ from (by first | with_reducible exact K7.out | with_reducible exact K7.out.trans (Kp.alloc _ _) | with_reducible exact (K7.out.trans (Kp.alloc _ _)).trans (Kp.alloc _ _) | with_reducible exact K7.out.trans (Kp.drew _) | with_reducible exact K7.out.trans (Kp.drewN _ _))).trans kk)
       clear kk
       go_wp2
       go_ret
       exact ⟨rfl, K00.out.trans K8.out⟩
      | true =>
       have mc := MC ho hb
       have pc := PC ho hb
       rw [ho, if_pos rfl] at RE
       rw [RE] at C1
       rw [mc] at CM
       generalize cerO l m = cc at *
       generalize posO l m = pp at *
       generalize canB l m 0 = n0 at *
       generalize canB l m 1 = n1 at *
       subst pc
       have q1 : (cc == cc) = true := by simp
       clear RE ho CB MC PC EB hb mc
       generalize unitsN l = ul at *
       generalize unitsN m = um at *
       generalize relM l m = M at *
       cases n0 with
       | true =>
        go_enter Tryz.func4, Tryz.ntmps4
        go_wp2_with fail
        refine (CA.out _ (K00.out.trans (by first | with_reducible exact K0.out | with_reducible exact K0.out.trans (Kp.alloc _ _) | with_reducible exact (K0.out.trans (Kp.alloc _ _)).trans (Kp.alloc _ _) | with_reducible exact K0.out.trans (Kp.drew _) | with_reducible exact K0.out.trans (Kp.drewN _ _)))).mono ?_
        rintro e w1 ⟨rfl, kk⟩
        have K1 := Lib.hid ((show Kp W0 _ from (by first | with_reducible exact K0.out | with_reducible exact K0.out.trans (Kp.alloc _ _) | with_reducible exact (K0.out.trans (Kp.alloc _ _)).trans (Kp.alloc _ _) | with_reducible exact K0.out.trans (Kp.drew _) | with_reducible exact K0.out.trans (Kp.drewN _ _))).trans kk)
        clear kk
        go_wp2_with fail
        refine (CF.out _ (K00.out.trans (by first | with_reducible exact K1.out | with_reducible exact K1.out.trans (Kp.alloc _ _) | with_reducible exact (K1.out.trans (Kp.alloc _ _)).trans (Kp.alloc _ _) | with_reducible exact K1.out.trans (Kp.drew _) | with_reducible exact K1.out.trans (Kp.drewN _ _)))).mono ?_
        rintro e w2 ⟨rfl, kk⟩
        have K2 := Lib.hid ((show Kp W0 _ from (by first | with_reducible exact K1.out | with_reducible exact K1.out.trans (Kp.alloc _ _) | with_reducible exact (K1.out.trans (Kp.alloc _ _)).trans (Kp.alloc _ _) | with_reducible exact K1.out.trans (Kp.drew _) | with_reducible exact K1.out.trans (Kp.drewN _ _))).trans kk)
        clear kk
        go_wp2_with fail
        refine (CG.out _ (K00.out.trans (by first | with_reducible exact K2.out | with_reducible exact K2.out.trans (Kp.alloc _ _) | with_reducible exact (K2.out.trans (Kp.alloc _ _)).trans (Kp.alloc _ _) | with_reducible exact K2.out.trans (Kp.drew _) | with_reducible exact K2.out.trans (Kp.drewN _ _)))).mono ?_
        rintro e w3 ⟨rfl, kk⟩
        have K3 := Lib.hid ((show Kp W0 _ from (by first | with_reducible exact K2.out | with_reducible exact K2.out.trans (Kp.alloc _ _) | with_reducible exact (K2.out.trans (Kp.alloc _ _)).trans (Kp.alloc _ _) | with_reducible exact K2.out.trans (Kp.drew _) | with_reducible exact K2.out.trans (Kp.drewN _ _))).trans kk)
        clear kk
        go_wp2_with fail
        refine (U1.out _ (K00.out.trans (by first | with_reducible exact K3.out | with_reducible exact K3.out.trans (Kp.alloc _ _) | with_reducible exact (K3.out.trans (Kp.alloc _ _)).trans (Kp.alloc _ _) | with_reducible exact K3.out.trans (Kp.drew _) | with_reducible exact K3.out.trans (Kp.drewN _ _)))).mono ?_
        rintro e w4 ⟨rfl, kk⟩
        have K4 := Lib.hid ((show Kp W0 _ from (by first | with_reducible exact K3.out | with_reducible exact K3.out.trans (Kp.alloc _ _) | with_reducible exact (K3.out.trans (Kp.alloc _ _)).trans (Kp.alloc _ _) | with_reducible exact K3.out.trans (Kp.drew _) | with_reducible exact K3.out.trans (Kp.drewN _ _))).trans kk)
        clear kk
        go_wp2_with fail
        refine (U2.out _ (K00.out.trans (by first | with_reducible exact K4.out | with_reducible exact K4.out.trans (Kp.alloc _ _) | with_reducible exact (K4.out.trans (Kp.alloc _ _)).trans (Kp.alloc _ _) | with_reducible exact K4.out.trans (Kp.drew _) | with_reducible exact K4.out.trans (Kp.drewN _ _)))).mono ?_
        rintro e w5 ⟨rfl, kk⟩
        have K5 := Lib.hid ((show Kp W0 _ from (by first | with_reducible exact K4.out | with_reducible exact K4.out.trans (Kp.alloc _ _) | with_reducible exact (K4.out.trans (Kp.alloc _ _)).trans (Kp.alloc _ _) | with_reducible exact K4.out.trans (Kp.drew _) | with_reducible exact K4.out.trans (Kp.drewN _ _))).trans kk)
        clear kk
        go_wp2_with fail
        refine (C1.out _ (K00.out.trans (by first | with_reducible exact K5.out | with_reducible exact K5.out.trans (Kp.alloc _ _) | with_reducible exact (K5.out.trans (Kp.alloc _ _)).trans (Kp.alloc _ _) | with_reducible exact K5.out.trans (Kp.drew _) | with_reducible exact K5.out.trans (Kp.drewN _ _)))).mono ?_
        rintro e w6 ⟨rfl, kk⟩
        have K6 := Lib.hid ((show Kp W0 _ from (by first | with_reducible exact K5.out | with_reducible exact K5.out.trans (Kp.alloc _ _) | with_reducible exact (K5.out.trans (Kp.alloc _ _)).trans (Kp.alloc _ _) | with_reducible exact K5.out.trans (Kp.drew _) | with_reducible exact K5.out.trans (Kp.drewN _ _))).trans kk)
        clear kk
        go_wp2_with fail
        refine (CC.out _ (K00.out.trans (by first | with_reducible exact K6.out | with_reducible exact K6.out.trans (Kp.alloc _ _) | with_reducible exact (K6.out.trans (Kp.alloc _ _)).trans (Kp.alloc _ _) | with_reducible exact K6.out.trans (Kp.drew _) | with_reducible exact K6.out.trans (Kp.drewN _ _)))).mono ?_
        rintro e w7 ⟨rfl, kk⟩
        have K7 := Lib.hid ((show Kp W0 _ from (by first | with_reducible exact K6.out | with_reducible exact K6.out.trans (Kp.alloc _ _) | with_reducible exact (K6.out.trans (Kp.alloc _ _)).trans (Kp.alloc _ _) | with_reducible exact K6.out.trans (Kp.drew _) | with_reducible exact K6.out.trans (Kp.drewN _ _))).trans kk)
        clear kk
        go_wp2_with fail
        refine (CP.out _ (K00.out.trans (by first | with_reducible exact K7.out | with_reducible exact K7.out.trans (Kp.alloc _ _) | with_reducible exact (K7.out.trans (Kp.alloc _ _)).trans (Kp.alloc _ _) | with_reducible exact K7.out.trans (Kp.drew _) | with_reducible exact K7.out.trans (Kp.drewN _ _)))).mono ?_
        rintro e w8 ⟨rfl, kk⟩
        have K8 := Lib.hid ((show Kp W0 _ from (by first | with_reducible exact K7.out | with_reducible exact K7.out.trans (Kp.alloc _ _) | with_reducible exact (K7.out.trans (Kp.alloc _ _)).trans (Kp.alloc _ _) | with_reducible exact K7.out.trans (Kp.drew _) | with_reducible exact K7.out.trans (Kp.drewN _ _))).trans kk)
        clear kk
        go_wp2_with fail
        refine (CM.out _ (K00.out.trans (by first | with_reducible exact K8.out | with_reducible exact K8.out.trans (Kp.alloc _ _) | with_reducible exact (K8.out.trans (Kp.alloc _ _)).trans (Kp.alloc _ _) | with_reducible exact K8.out.trans (Kp.drew _) | with_reducible exact K8.out.trans (Kp.drewN _ _)))).mono ?_
        rintro e w9 ⟨rfl, kk⟩
        have K9 := Lib.hid ((show Kp W0 _ from (by first | with_reducible exact K8.out | with_reducible exact K8.out.trans (Kp.alloc _ _) | with_reducible exact (K8.out.trans (Kp.alloc _ _)).trans (Kp.alloc _ _) | with_reducible exact K8.out.trans (Kp.drew _) | with_reducible exact K8.out.trans (Kp.drewN _ _))).trans kk)
        clear kk
        go_wp2_with fail
        refine (N0.out _ (K00.out.trans (by first | with_reducible exact K9.out | with_reducible exact K9.out.trans (Kp.alloc _ _) | with_reducible exact (K9.out.trans (Kp.alloc _ _)).trans (Kp.alloc _ _) | with_reducible exact K9.out.trans (Kp.drew _) | with_reducible exact K9.out.trans (Kp.drewN _ _)))).mono ?_
        rintro e w10 ⟨rfl, kk⟩
        have K10 := Lib.hid ((show Kp W0 _ from (by first | with_reducible exact K9.out | with_reducible exact K9.out.trans (Kp.alloc _ _) | with_reducible exact (K9.out.trans (Kp.alloc _ _)).trans (Kp.alloc _ _) | with_reducible exact K9.out.trans (Kp.drew _) | with_reducible exact K9.out.trans (Kp.drewN _ _))).trans kk)
        clear kk
        go_wp2
        go_ret
        exact ⟨rfl, K00.out.trans K10.out⟩
       | false =>
        cases n1 with
        | true =>
         go_enter Tryz.func4, Tryz.ntmps4
         go_wp2_with fail
         refine (CA.out _ (K00.out.trans (by first | with_reducible exact K0.out | with_reducible exact K0.out.trans (Kp.alloc _ _) | with_reducible exact (K0.out.trans (Kp.alloc _ _)).trans (Kp.alloc _ _) | with_reducible exact K0.out.trans (Kp.drew _) | with_reducible exact K0.out.trans (Kp.drewN _ _)))).mono ?_
         rintro e w1 ⟨rfl, kk⟩
         have K1 := Lib.hid ((show Kp W0 _ from (by first | with_reducible exact K0.out | with_reducible exact K0.out.trans (Kp.alloc _ _) | with_reducible exact (K0.out.trans (Kp.alloc _ _)).trans (Kp.alloc _ _) | with_reducible exact K0.out.trans (Kp.drew _) | with_reducible exact K0.out.trans (Kp.drewN _ _))).trans kk)
         clear kk
         go_wp2_with fail
         refine (CF.out _ (K00.out.trans (by first | with_reducible exact K1.out | with_reducible exact K1.out.trans (Kp.alloc _ _) | with_reducible exact (K1.out.trans (Kp.alloc _ _)).trans (Kp.alloc _ _) | with_reducible exact K1.out.trans (Kp.drew _) | with_reducible exact K1.out.trans (Kp.drewN _ _)))).mono ?_
         rintro e w2 ⟨rfl, kk⟩
         have K2 := Lib.hid ((show Kp W0 _ from (by first | with_reducible exact K1.out | with_reducible exact K1.out.trans (Kp.alloc _ _) | with_reducible exact (K1.out.trans (Kp.alloc _ _)).trans (Kp.alloc _ _) | with_reducible exact K1.out.trans (Kp.drew _) | with_reducible exact K1.out.trans (Kp.drewN _ _))).trans kk)
         clear kk
         go_wp2_with fail
         refine (CG.out _ (K00.out.trans (by first | with_reducible exact K2.out | with_reducible exact K2.out.trans (Kp.alloc _ _) | with_reducible exact (K2.out.trans (Kp.alloc _ _)).trans (Kp.alloc _ _) | with_reducible exact K2.out.trans (Kp.drew _) | with_reducible exact K2.out.trans (Kp.drewN _ _)))).mono ?_
         rintro e w3 ⟨rfl, kk⟩
         have K3 := Lib.hid ((show Kp W0 _ from (by first | with_reducible exact K2.out | with_reducible exact K2.out.trans (Kp.alloc _ _) | with_reducible exact (K2.out.trans (Kp.alloc _ _)).trans (Kp.alloc _ _) | with_reducible exact K2.out.trans (Kp.drew _) | with_reducible exact K2.out.trans (Kp.drewN _ _))).trans kk)
         clear kk
         go_wp2_with fail
         refine (U1.out _ (K00.out.trans (by first | with_reducible exact K3.out | with_reducible exact K3.out.trans (Kp.alloc _ _) | with_reducible exact (K3.out.trans (Kp.alloc _ _)).trans (Kp.alloc _ _) | with_reducible exact K3.out.trans (Kp.drew _) | with_reducible exact K3.out.trans (Kp.drewN _ _)))).mono ?_
         rintro e w4 ⟨rfl, kk⟩
         have K4 := Lib.hid ((show Kp W0 _ from (by first | with_reducible exact K3.out | with_reducible exact K3.out.trans (Kp.alloc _ _) | with_reducible exact (K3.out.trans (Kp.alloc _ _)).trans (Kp.alloc _ _) | with_reducible exact K3.out.trans (Kp.drew _) | with_reducible exact K3.out.trans (Kp.drewN _ _))).trans kk)
         clear kk
         go_wp2_with fail
         refine (U2.out _ (K00.out.trans (by first | with_reducible exact K4.out | with_reducible exact K4.out.trans (Kp.alloc _ _) | with_reducible exact (K4.out.trans (Kp.alloc _ _)).trans (Kp.alloc _ _) | with_reducible exact K4.out.trans (Kp.drew _) | with_reducible exact K4.out.trans (Kp.drewN _ _)))).mono ?_
         rintro e w5 ⟨rfl, kk⟩
         have K5 := Lib.hid ((show Kp W0 _ from (by first | with_reducible exact K4.out | with_reducible exact K4.out.trans (Kp.alloc _ _) | with_reducible exact (K4.out.trans (Kp.alloc _ _)).trans (Kp.alloc _ _) | with_reducible exact K4.out.trans (Kp.drew _) | with_reducible exact K4.out.trans (Kp.drewN _ _))).trans kk)
         clear kk
         go_wp2_with fail
         refine (C1.out _ (K00.out.trans (by first | with_reducible exact K5.out | with_reducible exact K5.out.trans (Kp.alloc _ _) | with_reducible exact (K5.out.trans (Kp.alloc _ _)).trans (Kp.alloc _ _) | with_reducible exact K5.out.trans (Kp.drew _) | with_reducible exact K5.out.trans (Kp.drewN _ _)))).mono ?_
         rintro e w6 ⟨rfl, kk⟩
         have K6 := Lib.hid ((show Kp W0 _ from (by first | with_reducible exact K5.out | with_reducible exact K5.out.trans (Kp.alloc _ _) | with_reducible exact (K5.out.trans (Kp.alloc _ _)).trans (Kp.alloc _ _) | with_reducible exact K5.out.trans (Kp.drew _) | with_reducible exact K5.out.trans (Kp.drewN _ _))).trans kk)
         clear kk
         go_wp2_with fail
         refine (CC.out _ (K00.out.trans (by first | with_reducible exact K6.out | with_reducible exact K6.out.trans (Kp.alloc _ _) | with_reducible exact (K6.out.trans (Kp.alloc _ _)).trans (Kp.alloc _ _) | with_reducible exact K6.out.trans (Kp.drew _) | with_reducible exact K6.out.trans (Kp.drewN _ _)))).mono ?_
         rintro e w7 ⟨rfl, kk⟩
         have K7 := Lib.hid ((show Kp W0 _ from (by first | with_reducible exact K6.out | with_reducible exact K6.out.trans (Kp.alloc _ _) | with_reducible exact (K6.out.trans (Kp.alloc _ _)).trans (Kp.alloc _ _) | with_reducible exact K6.out.trans (Kp.drew _) | with_reducible exact K6.out.trans (Kp.drewN _ _))).trans kk)
         clear kk
         go_wp2_with fail
         refine (CP.out _ (K00.out.trans (by first | with_reducible exact K7.out | with_reducible exact K7.out.trans (Kp.alloc _ _) | with_reducible exact (K7.out.trans (Kp.alloc _ _)).trans (Kp.alloc _ _) | with_reducible exact K7.out.trans (Kp.drew _) | with_reducible exact K7.out.trans (Kp.drewN _ _)))).mono ?_
         rintro e w8 ⟨rfl, kk⟩
         have K8 := Lib.hid ((show Kp W0 _ from (by first | with_reducible exact K7.out | with_reducible exact K7.out.trans (Kp.alloc _ _) | with_reducible exact (K7.out.trans (Kp.alloc _ _)).trans (Kp.alloc _ _) | with_reducible exact K7.out.trans (Kp.drew _) | with_reducible exact K7.out.trans (Kp.drewN _ _))).trans kk)
         clear kk
         go_wp2_with fail
         refine (CM.out _ (K00.out.trans (by first | with_reducible exact K8.out | with_reducible exact K8.out.trans (Kp.alloc _ _) | with_reducible exact (K8.out.trans (Kp.alloc _ _)).trans (Kp.alloc _ _) | with_reducible exact K8.out.trans (Kp.drew _) | with_reducible exact K8.out.trans (Kp.drewN _ _)))).mono ?_
         rintro e w9 ⟨rfl, kk⟩
         have K9 := Lib.hid ((show Kp W0 _ from (by first | with_reducible exact K8.out | with_reducible exact K8.out.trans (Kp.alloc _ _) | with_reducible exact (K8.out.trans (Kp.alloc _ _)).trans (Kp.alloc _ _) | with_reducible exact K8.out.trans (Kp.drew _) | with_reducible exact K8.out.trans (Kp.drewN _ _))).trans kk)
         clear kk
         go_wp2_with fail
         refine (N0.out _ (K00.out.trans (by first | with_reducible exact K9.out | with_reducible exact K9.out.trans (Kp.alloc _ _) | with_reducible exact (K9.out.trans (Kp.alloc _ _)).trans (Kp.alloc _ _) | with_reducible exact K9.out.trans (Kp.drew _) | with_reducible exact K9.out.trans (Kp.drewN _ _)))).mono ?_
         rintro e w10 ⟨rfl, kk⟩
         have K10 := Lib.hid ((show Kp W0 _ from (by first | with_reducible exact K9.out | with_reducible exact K9.out.trans (Kp.alloc _ _) | with_reducible exact (K9.out.trans (Kp.alloc _ _)).trans (Kp.alloc _ _) | with_reducible exact K9.out.trans (Kp.drew _) | with_reducible exact K9.out.trans (Kp.drewN _ _))).trans kk)
         clear kk
         go_wp2_with fail
         refine (N1.out _ (K00.out.trans (by first | with_reducible exact K10.out | with_reducible exact K10.out.trans (Kp.alloc _ _) | with_reducible exact (K10.out.trans (Kp.alloc _ _)).trans (Kp.alloc _ _) | with_reducible exact K10.out.trans (Kp.drew _) | with_reducible exact K10.out.trans (Kp.drewN _ _)))).mono ?_
         rintro e w11 ⟨rfl, kk⟩
         have K11 := Lib.hid ((show Kp W0 _ from (by first | with_reducible exact K10.out | with_reducible exact K10.out.trans (Kp.alloc _ _) | with_reducible exact (K10.out.trans (Kp.alloc _ _)).trans (Kp.alloc _ _) | with_reducible exact K10.out.trans (Kp.drew _) | with_reducible exact K10.out.trans (Kp.drewN _ _))).trans kk)
         clear kk
         go_wp2
         go_ret
         exact ⟨rfl, K00.out.trans K11.out⟩
        | false =>
         go_enter Tryz.func4, Tryz.ntmps4
         go_wp2_with fail
         refine (CA.out _ (K00.out.trans (by first | with_reducible exact K0.out | with_reducible exact K0.out.trans (Kp.alloc _ _) | with_reducible exact (K0.out.trans (Kp.alloc _ _)).trans (Kp.alloc _ _) | with_reducible exact K0.out.trans (Kp.drew _) | with_reducible exact K0.out.trans (Kp.drewN _ _)))).mono ?_
         rintro e w1 ⟨rfl, kk⟩
         have K1 := Lib.hid ((show Kp W0 _ from (by first | with_reducible exact K0.out | with_reducible exact K0.out.trans (Kp.alloc _ _) | with_reducible exact (K0.out.trans (Kp.alloc _ _)).trans (Kp.alloc _ _) | with_reducible exact K0.out.trans (Kp.drew _) | with_reducible exact K0.out.trans (Kp.drewN _ _))).trans kk)
         clear kk
         go_wp2_with fail
         refine (CF.out _ (K00.out.trans (by first | with_reducible exact K1.out | with_reducible exact K1.out.trans (Kp.alloc _ _) | with_reducible exact (K1.out.trans (Kp.alloc _ _)).trans (Kp.alloc _ _) | with_reducible exact K1.out.trans (Kp.drew _) | with_reducible exact K1.out.trans (Kp.drewN _ _)))).mono ?_
         rintro e w2 ⟨rfl, kk⟩
         have K2 := Lib.hid ((show Kp W0 _ from (by first | with_reducible exact K1.out | with_reducible exact K1.out.trans (Kp.alloc _ _) | with_reducible exact (K1.out.trans (Kp.alloc _ _)).trans (Kp.alloc _ _) | with_reducible exact K1.out.trans (Kp.drew _) | with_reducible exact K1.out.trans (Kp.drewN _ _))).trans kk)
         clear kk
         go_wp2_with fail
         refine (CG.out _ (K00.out.trans (by first | with_reducible exact K2.out | with_reducible exact K2.out.trans (Kp.alloc _ _) | with_reducible exact (K2.out.trans (Kp.alloc _ _)).trans (Kp.alloc _ _) | with_reducible exact K2.out.trans (Kp.drew _) | with_reducible exact K2.out.trans (Kp.drewN _ _)))).mono ?_
         rintro e w3 ⟨rfl, kk⟩
         have K3 := Lib.hid ((show Kp W0 _ from (by first | with_reducible exact K2.out | with_reducible exact K2.out.trans (Kp.alloc _ _) | with_reducible exact (K2.out.trans (Kp.alloc _ _)).trans (Kp.alloc _ _) | with_reducible exact K2.out.trans (Kp.drew _) | with_reducible exact K2.out.trans (Kp.drewN _ _))).trans kk)
         clear kk
         go_wp2_with fail
         refine (U1.out _ (K00.out.trans (by first | with_reducible exact K3.out | with_reducible exact K3.out.trans (Kp.alloc _ _) | with_reducible exact (K3.out.trans (Kp.alloc _ _)).trans (Kp.alloc _ _) | with_reducible exact K3.out.trans (Kp.drew _) | with_reducible exact K3.out.trans (Kp.drewN _ _)))).mono ?_
         rintro e w4 ⟨rfl, kk⟩
         have K4 := Lib.hid ((show Kp W0 _ from (by first | with_reducible exact K3.out | with_reducible exact K3.out.trans (Kp.alloc _ _) | with_reducible exact (K3.out.trans (Kp.alloc _ _)).trans (Kp.alloc _ _) | with_reducible exact K3.out.trans (Kp.drew _) | with_reducible exact K3.out.trans (Kp.drewN _ _))).trans kk)
         clear kk
         go_wp2_with fail
         refine (U2.out _ (K00.out.trans (by first | with_reducible exact K4.out | with_reducible exact K4.out.trans (Kp.alloc _ _) | with_reducible exact (K4.out.trans (Kp.alloc _ _)).trans (Kp.alloc _ _) | with_reducible exact K4.out.trans (Kp.drew _) | with_reducible exact K4.out.trans (Kp.drewN _ _)))).mono ?_
         rintro e w5 ⟨rfl, kk⟩
         have K5 := Lib.hid ((show Kp W0 _ from (by first | with_reducible exact K4.out | with_reducible exact K4.out.trans (Kp.alloc _ _) | with_reducible exact (K4.out.trans (Kp.alloc _ _)).trans (Kp.alloc _ _) | with_reducible exact K4.out.trans (Kp.drew _) | with_reducible exact K4.out.trans (Kp.drewN _ _))).trans kk)
         clear kk
         go_wp2_with fail
         refine (C1.out _ (K00.out.trans (by first | with_reducible exact K5.out | with_reducible exact K5.out.trans (Kp.alloc _ _) | with_reducible exact (K5.out.trans (Kp.alloc _ _)).trans (Kp.alloc _ _) | with_reducible exact K5.out.trans (Kp.drew _) | with_reducible exact K5.out.trans (Kp.drewN _ _)))).mono ?_
         rintro e w6 ⟨rfl, kk⟩
         have K6 := Lib.hid ((show Kp W0 _ from (by first | with_reducible exact K5.out | with_reducible exact K5.out.trans (Kp.alloc _ _) | with_reducible exact (K5.out.trans (Kp.alloc _ _)).trans (Kp.alloc _ _) | with_reducible exact K5.out.trans (Kp.drew _) | with_reducible exact K5.out.trans (Kp.drewN _ _))).trans kk)
         clear kk
         go_wp2_with fail
         refine (CC.out _ (K00.out.trans (by first | with_reducible exact K6.out | with_reducible exact K6.out.trans (Kp.alloc _ _) | with_reducible exact (K6.out.trans (Kp.alloc _ _)).trans (Kp.alloc _ _) | with_reducible exact K6.out.trans (Kp.drew _) | with_reducible exact K6.out.trans (Kp.drewN _ _)))).mono ?_
         rintro e w7 ⟨rfl, kk⟩
         have K7 := Lib.hid ((show Kp W0 _ from (by first | with_reducible exact K6.out | with_reducible exact K6.out.trans (Kp.alloc _ _) | with_reducible exact (K6.out.trans (Kp.alloc _ _)).trans (Kp.alloc _ _) | with_reducible exact K6.out.trans (Kp.drew _) | with_reducible exact K6.out.trans (Kp.drewN _ _))).trans kk)
         clear kk
         go_wp2_with fail
         refine (CP.out _ (K00.out.trans (by first | with_reducible exact K7.out | with_reducible exact K7.out.trans (Kp.alloc _ _) | with_reducible exact (K7.out.trans (Kp.alloc _ _)).trans (Kp.alloc _ _) | with_reducible exact K7.out.trans (Kp.drew _) | with_reducible exact K7.out.trans (Kp.drewN _ _)))).mono ?_
         rintro e w8 ⟨rfl, kk⟩
         have K8 := Lib.hid ((show Kp W0 _ from (by first | with_reducible exact K7.out | with_reducible exact K7.out.trans (Kp.alloc _ _) | with_reducible exact (K7.out.trans (Kp.alloc _ _)).trans (Kp.alloc _ _) | with_reducible exact K7.out.trans (Kp.drew _) | with_reducible exact K7.out.trans (Kp.drewN _ _))).trans kk)
         clear kk
         go_wp2_with fail
         refine (CM.out _ (K00.out.trans (by first | with_reducible exact K8.out | with_reducible exact K8.out.trans (Kp.alloc _ _) | with_reducible exact (K8.out.trans (Kp.alloc _ _)).trans (Kp.alloc _ _) | with_reducible exact K8.out.trans (Kp.drew _) | with_reducible exact K8.out.trans (Kp.drewN _ _)))).mono ?_
         rintro e w9 ⟨rfl, kk⟩
         have K9 := Lib.hid ((show Kp W0 _ from (by first | with_reducible exact K8.out | with_reducible exact K8.out.trans (Kp.alloc _ _) | with_reducible exact (K8.out.trans (Kp.alloc _ _)).trans (Kp.alloc _ _) | with_reducible exact K8.out.trans (Kp.drew _) | with_reducible exact K8.out.trans (Kp.drewN _ _))).trans kk)
         clear kk
         go_wp2_with fail
         refine (N0.out _ (K00.out.trans (by first | with_reducible exact K9.out | with_reducible exact K9.out.trans (Kp.alloc _ _) | with_reducible exact (K9.out.trans (Kp.alloc _ _)).trans (Kp.alloc _ _) | with_reducible exact K9.out.trans (Kp.drew _) | with_reducible exact K9.out.trans (Kp.drewN _ _)))).mono ?_
         rintro e w10 ⟨rfl, kk⟩
         have K10 := Lib.hid ((show Kp W0 _ from (by first | with_reducible exact K9.out | with_reducible exact K9.out.trans (Kp.alloc _ _) | with_reducible exact (K9.out.trans (Kp.alloc _ _)).trans (Kp.alloc _ _) | with_reducible exact K9.out.trans (Kp.drew _) | with_reducible exact K9.out.trans (Kp.drewN _ _))).trans kk)
         clear kk
         go_wp2_with fail
         refine (N1.out _ (K00.out.trans (by first | with_reducible exact K10.out | with_reducible exact K10.out.trans (Kp.alloc _ _) | with_reducible exact (K10.out.trans (Kp.alloc _ _)).trans (Kp.alloc _ _) | with_reducible exact K10.out.trans (Kp.drew _) | with_reducible exact K10.out.trans (Kp.drewN _ _)))).mono ?_
         rintro e w11 ⟨rfl, kk⟩
         have K11 := Lib.hid ((show Kp W0 _ from (by first | with_reducible exact K10.out | with_reducible exact K10.out.trans (Kp.alloc _ _) | with_reducible exact (K10.out.trans (Kp.alloc _ _)).trans (Kp.alloc _ _) | with_reducible exact K10.out.trans (Kp.drew _) | with_reducible exact K10.out.trans (Kp.drewN _ _))).trans kk)
         clear kk
         go_wp2
         go_ret
         exact ⟨rfl, K00.out.trans K11.out⟩
end Go.Proofs.YtjdnejglapnbbaaGreatDoor
