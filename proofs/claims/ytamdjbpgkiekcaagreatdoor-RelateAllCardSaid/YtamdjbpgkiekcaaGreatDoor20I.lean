/-
  Layer 20: RelateAll, walked.
-/
import Derived.Test.YtamdjbpgkiekcaaGreatDoor20H
namespace Go.Proofs.YtamdjbpgkiekcaaGreatDoor
open Go.RowKit
set_option linter.unusedVariables false
set_option linter.unusedSimpArgs false
theorem pls_ok {l : List LF} {k : Nat} (h : k < (pls l).length) : (at_ (pls l) k).1 ≤ (at_ (pls l) k).2 ∧ 0 ≤ (at_ (pls l) k).1 ∧ (at_ (pls l) k).2 ≤ 3652424 := by
  have := hasP_ok l _ _ ((pls_mem l _).1 (at_mem h))
  omega
theorem bits_start {X : Nat → Prop} (h : ∀ r, ¬ X r) : bitsP 0 0 X := fun r _ => ⟨.inl, fun g => g.elim id fun g => absurd g (h r)⟩
abbrev raA0 : Oper := { dst := some 67, op := Go.Op.move (Go.Operand.tmp 6), type := 30, pos := "law.go:54", after := #[], guard := none }
abbrev raA1 : Oper := { dst := some 68, op := Go.Op.move (Go.Operand.tmp 11), type := 3, pos := "law.go:54", after := #[], guard := none }
abbrev raA2 : Oper := { dst := some 69, op := Go.Op.indexAddr 30 (Go.Operand.tmp 67) (Go.Operand.tmp 68), type := 0, pos := "law.go:54", after := #[{ on := 0, ground := Go.Ground.data }, { on := 1, ground := Go.Ground.data }], guard := none }
abbrev raA3 : Oper := { dst := some 70, op := Go.Op.load 36 (Go.Operand.tmp 69), type := 36, pos := "law.go:54", after := #[{ on := 2, ground := Go.Ground.data }], guard := none }
abbrev raA4 : Oper := { dst := some 71, op := Go.Op.move (Go.Operand.tmp 8), type := 30, pos := "law.go:54", after := #[], guard := none }
abbrev raA5 : Oper := { dst := some 72, op := Go.Op.move (Go.Operand.tmp 12), type := 3, pos := "law.go:54", after := #[], guard := none }
abbrev raA6 : Oper := { dst := some 73, op := Go.Op.indexAddr 30 (Go.Operand.tmp 71) (Go.Operand.tmp 72), type := 0, pos := "law.go:54", after := #[{ on := 4, ground := Go.Ground.data }, { on := 5, ground := Go.Ground.data }], guard := none }
abbrev raA7 : Oper := { dst := some 74, op := Go.Op.load 36 (Go.Operand.tmp 73), type := 36, pos := "law.go:54", after := #[{ on := 6, ground := Go.Ground.data }], guard := none }
abbrev raA8 : Oper := { dst := some 75, op := Go.Op.call { callee := Go.Callee.value (Go.Operand.func 20), args := #[Go.Operand.tmp 70, Go.Operand.tmp 74], argTypes := #[36, 36] }, type := 33, pos := "law.go:54", after := #[{ on := 3, ground := Go.Ground.data }, { on := 7, ground := Go.Ground.data }], guard := none }
abbrev raA9 : Oper := { dst := some 66, op := Go.Op.move (Go.Operand.tmp 75), type := 33, pos := "law.go:54", after := #[{ on := 8, ground := Go.Ground.data }], guard := none }
abbrev raA10 : Oper := { dst := some 76, op := Go.Op.extract (Go.Operand.tmp 66) 0, type := 3, pos := "law.go:54", after := #[{ on := 9, ground := Go.Ground.data }], guard := none }
abbrev raA11 : Oper := { dst := some 77, op := Go.Op.extract (Go.Operand.tmp 66) 1, type := 4, pos := "law.go:54", after := #[{ on := 9, ground := Go.Ground.data }, { on := 12, ground := Go.Ground.gcOnly Go.Departure.lateStores }], guard := none }
abbrev raA12 : Oper := { dst := some 13, op := Go.Op.assign (Go.Operand.tmp 76), type := 3, pos := "law.go:54", after := #[{ on := 10, ground := Go.Ground.data }, { on := 8, ground := Go.Ground.chain }, { on := 0, ground := Go.Ground.phase }, { on := 1, ground := Go.Ground.phase }, { on := 2, ground := Go.Ground.phase }, { on := 3, ground := Go.Ground.phase }, { on := 4, ground := Go.Ground.phase }, { on := 5, ground := Go.Ground.phase }, { on := 6, ground := Go.Ground.phase }, { on := 7, ground := Go.Ground.phase }, { on := 8, ground := Go.Ground.phase }, { on := 9, ground := Go.Ground.phase }, { on := 10, ground := Go.Ground.phase }, { on := 11, ground := Go.Ground.textOnly Go.Departure.lateStores }], guard := none }
abbrev raA13 : Oper := { dst := some 14, op := Go.Op.assign (Go.Operand.tmp 77), type := 4, pos := "law.go:54", after := #[{ on := 11, ground := Go.Ground.data }, { on := 12, ground := Go.Ground.chain }, { on := 0, ground := Go.Ground.phase }, { on := 1, ground := Go.Ground.phase }, { on := 2, ground := Go.Ground.phase }, { on := 3, ground := Go.Ground.phase }, { on := 4, ground := Go.Ground.phase }, { on := 5, ground := Go.Ground.phase }, { on := 6, ground := Go.Ground.phase }, { on := 7, ground := Go.Ground.phase }, { on := 8, ground := Go.Ground.phase }, { on := 9, ground := Go.Ground.phase }, { on := 10, ground := Go.Ground.phase }, { on := 11, ground := Go.Ground.phase }, { on := 12, ground := Go.Ground.phase }], guard := none }
set_option maxHeartbeats 16000000 in
set_option maxRecDepth 100000 in
theorem relateAll_walk (vl : Value) (l : List LF) (vm : Value) (m : List LF) (w : World) (rl : LeavesAt w vl l) (gl : ∀ f ∈ l, LeafG f) (rm : LeavesAt w vm m) (gm : ∀ f ∈ m, LeafG f) (T : Tabs20 w) :
    Calls Tryz.prog 4 #[vl, vm] w fun e w' => e = .returned (.bool true) ∧ Kp w w' := by
  have CA := Lib.hid (fun w1 (k : Kp w w1) => awake20 w1 (T.kp k))
  have CF := Lib.hid (fun w1 (k : Kp w w1) => few20_any _ l w1 (rl.kp k) gl)
  have CG := Lib.hid (fun w1 (k : Kp w w1) => few20_any _ m w1 (rm.kp k) gm)
  have OKL := Lib.hid (fun h => few20_ok (l := l) h gl)
  have OKM := Lib.hid (fun h => few20_ok (l := m) h gm)
  generalize few20 l = fl at *
  generalize few20 m = fm at *
  obtain ⟨adl, cal, rfl⟩ := rl.slice
  obtain ⟨adm, cam, rfl⟩ := rm.slice
  obtain ⟨W0, hW⟩ : ∃ W0, W0 = w := ⟨_, rfl⟩
  subst hW
  have K00 := Lib.hid (Kp.refl W0)
  have K0 := Lib.hid (Kp.refl W0)
  cases fl with
  | false =>
    clear rl rm T gl gm OKL OKM
    go_enter Tryz.func4, Tryz.ntmps4
    go_wp2_with fail
    refine (CA.out _ (K00.out.trans (by first | with_reducible exact K0.out | with_reducible exact K0.out.trans (Kp.alloc _ _) | with_reducible exact (K0.out.trans (Kp.alloc _ _)).trans (Kp.alloc _ _) | with_reducible exact ((K0.out.trans (Kp.alloc _ _)).trans (Kp.alloc _ _)).trans (Kp.alloc _ _) | with_reducible exact K0.out.trans (Kp.drew _) | with_reducible exact K0.out.trans (Kp.drewN _ _)))).mono ?_
    rintro e w1 ⟨rfl, kk⟩
    have K1 := Lib.hid ((show Kp W0 _ from (by first | with_reducible exact K0.out | with_reducible exact K0.out.trans (Kp.alloc _ _) | with_reducible exact (K0.out.trans (Kp.alloc _ _)).trans (Kp.alloc _ _) | with_reducible exact ((K0.out.trans (Kp.alloc _ _)).trans (Kp.alloc _ _)).trans (Kp.alloc _ _) | with_reducible exact K0.out.trans (Kp.drew _) | with_reducible exact K0.out.trans (Kp.drewN _ _))).trans kk)
    clear kk
    go_wp2_with fail
    refine (CF.out _ (K00.out.trans (by first | with_reducible exact K1.out | with_reducible exact K1.out.trans (Kp.alloc _ _) | with_reducible exact (K1.out.trans (Kp.alloc _ _)).trans (Kp.alloc _ _) | with_reducible exact ((K1.out.trans (Kp.alloc _ _)).trans (Kp.alloc _ _)).trans (Kp.alloc _ _) | with_reducible exact K1.out.trans (Kp.drew _) | with_reducible exact K1.out.trans (Kp.drewN _ _)))).mono ?_
    rintro e w2 ⟨rfl, kk⟩
    have K2 := Lib.hid ((show Kp W0 _ from (by first | with_reducible exact K1.out | with_reducible exact K1.out.trans (Kp.alloc _ _) | with_reducible exact (K1.out.trans (Kp.alloc _ _)).trans (Kp.alloc _ _) | with_reducible exact ((K1.out.trans (Kp.alloc _ _)).trans (Kp.alloc _ _)).trans (Kp.alloc _ _) | with_reducible exact K1.out.trans (Kp.drew _) | with_reducible exact K1.out.trans (Kp.drewN _ _))).trans kk)
    clear kk
    go_wp2
    go_ret
    exact ⟨rfl, K00.out.trans K2.out⟩
  | true =>
    obtain ⟨ol, nl⟩ := OKL.out (by first | rfl | trivial)
    cases fm with
    | false =>
      clear rl rm T gl gm OKL OKM ol nl
      go_enter Tryz.func4, Tryz.ntmps4
      go_wp2_with fail
      refine (CA.out _ (K00.out.trans (by first | with_reducible exact K0.out | with_reducible exact K0.out.trans (Kp.alloc _ _) | with_reducible exact (K0.out.trans (Kp.alloc _ _)).trans (Kp.alloc _ _) | with_reducible exact ((K0.out.trans (Kp.alloc _ _)).trans (Kp.alloc _ _)).trans (Kp.alloc _ _) | with_reducible exact K0.out.trans (Kp.drew _) | with_reducible exact K0.out.trans (Kp.drewN _ _)))).mono ?_
      rintro e w1 ⟨rfl, kk⟩
      have K1 := Lib.hid ((show Kp W0 _ from (by first | with_reducible exact K0.out | with_reducible exact K0.out.trans (Kp.alloc _ _) | with_reducible exact (K0.out.trans (Kp.alloc _ _)).trans (Kp.alloc _ _) | with_reducible exact ((K0.out.trans (Kp.alloc _ _)).trans (Kp.alloc _ _)).trans (Kp.alloc _ _) | with_reducible exact K0.out.trans (Kp.drew _) | with_reducible exact K0.out.trans (Kp.drewN _ _))).trans kk)
      clear kk
      go_wp2_with fail
      refine (CF.out _ (K00.out.trans (by first | with_reducible exact K1.out | with_reducible exact K1.out.trans (Kp.alloc _ _) | with_reducible exact (K1.out.trans (Kp.alloc _ _)).trans (Kp.alloc _ _) | with_reducible exact ((K1.out.trans (Kp.alloc _ _)).trans (Kp.alloc _ _)).trans (Kp.alloc _ _) | with_reducible exact K1.out.trans (Kp.drew _) | with_reducible exact K1.out.trans (Kp.drewN _ _)))).mono ?_
      rintro e w2 ⟨rfl, kk⟩
      have K2 := Lib.hid ((show Kp W0 _ from (by first | with_reducible exact K1.out | with_reducible exact K1.out.trans (Kp.alloc _ _) | with_reducible exact (K1.out.trans (Kp.alloc _ _)).trans (Kp.alloc _ _) | with_reducible exact ((K1.out.trans (Kp.alloc _ _)).trans (Kp.alloc _ _)).trans (Kp.alloc _ _) | with_reducible exact K1.out.trans (Kp.drew _) | with_reducible exact K1.out.trans (Kp.drewN _ _))).trans kk)
      clear kk
      go_wp2_with fail
      refine (CG.out _ (K00.out.trans (by first | with_reducible exact K2.out | with_reducible exact K2.out.trans (Kp.alloc _ _) | with_reducible exact (K2.out.trans (Kp.alloc _ _)).trans (Kp.alloc _ _) | with_reducible exact ((K2.out.trans (Kp.alloc _ _)).trans (Kp.alloc _ _)).trans (Kp.alloc _ _) | with_reducible exact K2.out.trans (Kp.drew _) | with_reducible exact K2.out.trans (Kp.drewN _ _)))).mono ?_
      rintro e w3 ⟨rfl, kk⟩
      have K3 := Lib.hid ((show Kp W0 _ from (by first | with_reducible exact K2.out | with_reducible exact K2.out.trans (Kp.alloc _ _) | with_reducible exact (K2.out.trans (Kp.alloc _ _)).trans (Kp.alloc _ _) | with_reducible exact ((K2.out.trans (Kp.alloc _ _)).trans (Kp.alloc _ _)).trans (Kp.alloc _ _) | with_reducible exact K2.out.trans (Kp.drew _) | with_reducible exact K2.out.trans (Kp.drewN _ _))).trans kk)
      clear kk
      go_wp2
      go_ret
      exact ⟨rfl, K00.out.trans K3.out⟩
    | true =>
      obtain ⟨om, nm⟩ := OKM.out (by first | rfl | trivial)
      by_cases hl4 : 4 < l.length
      · have gl1 : decide ((l.length : Int) > 4) = true := decide_eq_true (by omega)
        have gl2 : decide ((4 : Int) < (l.length : Int)) = true := decide_eq_true (by omega)
        have gl3 : decide (4 < l.length) = true := decide_eq_true (by omega)
        clear rl rm T gl gm OKL OKM ol nl om nm
        go_enter Tryz.func4, Tryz.ntmps4
        go_wp2_with fail
        refine (CA.out _ (K00.out.trans (by first | with_reducible exact K0.out | with_reducible exact K0.out.trans (Kp.alloc _ _) | with_reducible exact (K0.out.trans (Kp.alloc _ _)).trans (Kp.alloc _ _) | with_reducible exact ((K0.out.trans (Kp.alloc _ _)).trans (Kp.alloc _ _)).trans (Kp.alloc _ _) | with_reducible exact K0.out.trans (Kp.drew _) | with_reducible exact K0.out.trans (Kp.drewN _ _)))).mono ?_
        rintro e w1 ⟨rfl, kk⟩
        have K1 := Lib.hid ((show Kp W0 _ from (by first | with_reducible exact K0.out | with_reducible exact K0.out.trans (Kp.alloc _ _) | with_reducible exact (K0.out.trans (Kp.alloc _ _)).trans (Kp.alloc _ _) | with_reducible exact ((K0.out.trans (Kp.alloc _ _)).trans (Kp.alloc _ _)).trans (Kp.alloc _ _) | with_reducible exact K0.out.trans (Kp.drew _) | with_reducible exact K0.out.trans (Kp.drewN _ _))).trans kk)
        clear kk
        go_wp2_with fail
        refine (CF.out _ (K00.out.trans (by first | with_reducible exact K1.out | with_reducible exact K1.out.trans (Kp.alloc _ _) | with_reducible exact (K1.out.trans (Kp.alloc _ _)).trans (Kp.alloc _ _) | with_reducible exact ((K1.out.trans (Kp.alloc _ _)).trans (Kp.alloc _ _)).trans (Kp.alloc _ _) | with_reducible exact K1.out.trans (Kp.drew _) | with_reducible exact K1.out.trans (Kp.drewN _ _)))).mono ?_
        rintro e w2 ⟨rfl, kk⟩
        have K2 := Lib.hid ((show Kp W0 _ from (by first | with_reducible exact K1.out | with_reducible exact K1.out.trans (Kp.alloc _ _) | with_reducible exact (K1.out.trans (Kp.alloc _ _)).trans (Kp.alloc _ _) | with_reducible exact ((K1.out.trans (Kp.alloc _ _)).trans (Kp.alloc _ _)).trans (Kp.alloc _ _) | with_reducible exact K1.out.trans (Kp.drew _) | with_reducible exact K1.out.trans (Kp.drewN _ _))).trans kk)
        clear kk
        go_wp2_with fail
        refine (CG.out _ (K00.out.trans (by first | with_reducible exact K2.out | with_reducible exact K2.out.trans (Kp.alloc _ _) | with_reducible exact (K2.out.trans (Kp.alloc _ _)).trans (Kp.alloc _ _) | with_reducible exact ((K2.out.trans (Kp.alloc _ _)).trans (Kp.alloc _ _)).trans (Kp.alloc _ _) | with_reducible exact K2.out.trans (Kp.drew _) | with_reducible exact K2.out.trans (Kp.drewN _ _)))).mono ?_
        rintro e w3 ⟨rfl, kk⟩
        have K3 := Lib.hid ((show Kp W0 _ from (by first | with_reducible exact K2.out | with_reducible exact K2.out.trans (Kp.alloc _ _) | with_reducible exact (K2.out.trans (Kp.alloc _ _)).trans (Kp.alloc _ _) | with_reducible exact ((K2.out.trans (Kp.alloc _ _)).trans (Kp.alloc _ _)).trans (Kp.alloc _ _) | with_reducible exact K2.out.trans (Kp.drew _) | with_reducible exact K2.out.trans (Kp.drewN _ _))).trans kk)
        clear kk
        go_wp2
        go_ret
        exact ⟨rfl, K00.out.trans K3.out⟩
      · by_cases hm4 : 4 < m.length
        · have gl1 : decide ((l.length : Int) > 4) = false := decide_eq_false (by omega)
          have gl2 : decide ((4 : Int) < (l.length : Int)) = false := decide_eq_false (by omega)
          have gl3 : decide (4 < l.length) = false := decide_eq_false (by omega)
          have gm1 : decide ((m.length : Int) > 4) = true := decide_eq_true (by omega)
          have gm2 : decide ((4 : Int) < (m.length : Int)) = true := decide_eq_true (by omega)
          have gm3 : decide (4 < m.length) = true := decide_eq_true (by omega)
          clear rl rm T gl gm OKL OKM ol nl om nm
          go_enter Tryz.func4, Tryz.ntmps4
          go_wp2_with fail
          refine (CA.out _ (K00.out.trans (by first | with_reducible exact K0.out | with_reducible exact K0.out.trans (Kp.alloc _ _) | with_reducible exact (K0.out.trans (Kp.alloc _ _)).trans (Kp.alloc _ _) | with_reducible exact ((K0.out.trans (Kp.alloc _ _)).trans (Kp.alloc _ _)).trans (Kp.alloc _ _) | with_reducible exact K0.out.trans (Kp.drew _) | with_reducible exact K0.out.trans (Kp.drewN _ _)))).mono ?_
          rintro e w1 ⟨rfl, kk⟩
          have K1 := Lib.hid ((show Kp W0 _ from (by first | with_reducible exact K0.out | with_reducible exact K0.out.trans (Kp.alloc _ _) | with_reducible exact (K0.out.trans (Kp.alloc _ _)).trans (Kp.alloc _ _) | with_reducible exact ((K0.out.trans (Kp.alloc _ _)).trans (Kp.alloc _ _)).trans (Kp.alloc _ _) | with_reducible exact K0.out.trans (Kp.drew _) | with_reducible exact K0.out.trans (Kp.drewN _ _))).trans kk)
          clear kk
          go_wp2_with fail
          refine (CF.out _ (K00.out.trans (by first | with_reducible exact K1.out | with_reducible exact K1.out.trans (Kp.alloc _ _) | with_reducible exact (K1.out.trans (Kp.alloc _ _)).trans (Kp.alloc _ _) | with_reducible exact ((K1.out.trans (Kp.alloc _ _)).trans (Kp.alloc _ _)).trans (Kp.alloc _ _) | with_reducible exact K1.out.trans (Kp.drew _) | with_reducible exact K1.out.trans (Kp.drewN _ _)))).mono ?_
          rintro e w2 ⟨rfl, kk⟩
          have K2 := Lib.hid ((show Kp W0 _ from (by first | with_reducible exact K1.out | with_reducible exact K1.out.trans (Kp.alloc _ _) | with_reducible exact (K1.out.trans (Kp.alloc _ _)).trans (Kp.alloc _ _) | with_reducible exact ((K1.out.trans (Kp.alloc _ _)).trans (Kp.alloc _ _)).trans (Kp.alloc _ _) | with_reducible exact K1.out.trans (Kp.drew _) | with_reducible exact K1.out.trans (Kp.drewN _ _))).trans kk)
          clear kk
          go_wp2_with fail
          refine (CG.out _ (K00.out.trans (by first | with_reducible exact K2.out | with_reducible exact K2.out.trans (Kp.alloc _ _) | with_reducible exact (K2.out.trans (Kp.alloc _ _)).trans (Kp.alloc _ _) | with_reducible exact ((K2.out.trans (Kp.alloc _ _)).trans (Kp.alloc _ _)).trans (Kp.alloc _ _) | with_reducible exact K2.out.trans (Kp.drew _) | with_reducible exact K2.out.trans (Kp.drewN _ _)))).mono ?_
          rintro e w3 ⟨rfl, kk⟩
          have K3 := Lib.hid ((show Kp W0 _ from (by first | with_reducible exact K2.out | with_reducible exact K2.out.trans (Kp.alloc _ _) | with_reducible exact (K2.out.trans (Kp.alloc _ _)).trans (Kp.alloc _ _) | with_reducible exact ((K2.out.trans (Kp.alloc _ _)).trans (Kp.alloc _ _)).trans (Kp.alloc _ _) | with_reducible exact K2.out.trans (Kp.drew _) | with_reducible exact K2.out.trans (Kp.drewN _ _))).trans kk)
          clear kk
          go_wp2
          go_ret
          exact ⟨rfl, K00.out.trans K3.out⟩
        · have gl1 : decide ((l.length : Int) > 4) = false := decide_eq_false (by omega)
          have gl2 : decide ((4 : Int) < (l.length : Int)) = false := decide_eq_false (by omega)
          have gl3 : decide (4 < l.length) = false := decide_eq_false (by omega)
          have gm1 : decide ((m.length : Int) > 4) = false := decide_eq_false (by omega)
          have gm2 : decide ((4 : Int) < (m.length : Int)) = false := decide_eq_false (by omega)
          have gm3 : decide (4 < m.length) = false := decide_eq_false (by omega)
          have C1 := Lib.hid (fun w1 (k : Kp W0 w1) => relations_any _ _ l m w1 (rl.kp k) (rm.kp k) ol om (by omega) (by omega) (T.kp k).1)
          have P1 := Lib.hid (fun w1 (k : Kp W0 w1) => pairs20_any _ l w1 (rl.kp k) ol (by omega) (T.kp k).1)
          have P2 := Lib.hid (fun w1 (k : Kp W0 w1) => pairs20_any _ m w1 (rm.kp k) om (by omega) (T.kp k).1)
          clear rl rm T gl gm OKL OKM ol nl om nm
          go_enter Tryz.func4, Tryz.ntmps4
          go_wp2_with fail
          refine (CA.out _ (K00.out.trans (by first | with_reducible exact K0.out | with_reducible exact K0.out.trans (Kp.alloc _ _) | with_reducible exact (K0.out.trans (Kp.alloc _ _)).trans (Kp.alloc _ _) | with_reducible exact ((K0.out.trans (Kp.alloc _ _)).trans (Kp.alloc _ _)).trans (Kp.alloc _ _) | with_reducible exact K0.out.trans (Kp.drew _) | with_reducible exact K0.out.trans (Kp.drewN _ _)))).mono ?_
          rintro e w1 ⟨rfl, kk⟩
          have K1 := Lib.hid ((show Kp W0 _ from (by first | with_reducible exact K0.out | with_reducible exact K0.out.trans (Kp.alloc _ _) | with_reducible exact (K0.out.trans (Kp.alloc _ _)).trans (Kp.alloc _ _) | with_reducible exact ((K0.out.trans (Kp.alloc _ _)).trans (Kp.alloc _ _)).trans (Kp.alloc _ _) | with_reducible exact K0.out.trans (Kp.drew _) | with_reducible exact K0.out.trans (Kp.drewN _ _))).trans kk)
          clear kk
          go_wp2_with fail
          refine (CF.out _ (K00.out.trans (by first | with_reducible exact K1.out | with_reducible exact K1.out.trans (Kp.alloc _ _) | with_reducible exact (K1.out.trans (Kp.alloc _ _)).trans (Kp.alloc _ _) | with_reducible exact ((K1.out.trans (Kp.alloc _ _)).trans (Kp.alloc _ _)).trans (Kp.alloc _ _) | with_reducible exact K1.out.trans (Kp.drew _) | with_reducible exact K1.out.trans (Kp.drewN _ _)))).mono ?_
          rintro e w2 ⟨rfl, kk⟩
          have K2 := Lib.hid ((show Kp W0 _ from (by first | with_reducible exact K1.out | with_reducible exact K1.out.trans (Kp.alloc _ _) | with_reducible exact (K1.out.trans (Kp.alloc _ _)).trans (Kp.alloc _ _) | with_reducible exact ((K1.out.trans (Kp.alloc _ _)).trans (Kp.alloc _ _)).trans (Kp.alloc _ _) | with_reducible exact K1.out.trans (Kp.drew _) | with_reducible exact K1.out.trans (Kp.drewN _ _))).trans kk)
          clear kk
          go_wp2_with fail
          refine (CG.out _ (K00.out.trans (by first | with_reducible exact K2.out | with_reducible exact K2.out.trans (Kp.alloc _ _) | with_reducible exact (K2.out.trans (Kp.alloc _ _)).trans (Kp.alloc _ _) | with_reducible exact ((K2.out.trans (Kp.alloc _ _)).trans (Kp.alloc _ _)).trans (Kp.alloc _ _) | with_reducible exact K2.out.trans (Kp.drew _) | with_reducible exact K2.out.trans (Kp.drewN _ _)))).mono ?_
          rintro e w3 ⟨rfl, kk⟩
          have K3 := Lib.hid ((show Kp W0 _ from (by first | with_reducible exact K2.out | with_reducible exact K2.out.trans (Kp.alloc _ _) | with_reducible exact (K2.out.trans (Kp.alloc _ _)).trans (Kp.alloc _ _) | with_reducible exact ((K2.out.trans (Kp.alloc _ _)).trans (Kp.alloc _ _)).trans (Kp.alloc _ _) | with_reducible exact K2.out.trans (Kp.drew _) | with_reducible exact K2.out.trans (Kp.drewN _ _))).trans kk)
          clear kk
          go_wp2_with fail
          refine (P1.out _ (K00.out.trans K3.out)).mono ?_
          rintro e w4 ⟨p1, p2, kk⟩
          have K4 := Lib.hid (K3.out.trans kk)
          cases f1 : fewP l with
          | false =>
            have e1 := p2 f1
            subst e1
            clear p1 p2 f1 kk
            go_wp2_with fail
            refine (P2.out _ (K00.out.trans K4.out)).mono ?_
            rintro e w5 ⟨q1, q2, kk⟩
            have K5 := Lib.hid (K4.out.trans kk)
            cases f2 : fewP m with
            | false =>
              have e2 := q2 f2
              subst e2
              clear q1 q2 f2 kk
              go_wp2
              go_ret
              exact ⟨rfl, K00.out.trans K5.out⟩
            | true =>
              obtain ⟨u, e2, ru⟩ := q1 f2
              subst e2
              obtain ⟨au, cu, rfl⟩ := ru.slice
              clear q1 q2 f2 kk ru
              go_wp2
              go_ret
              exact ⟨rfl, K00.out.trans K5.out⟩
          | true =>
            obtain ⟨u1, e1, r1⟩ := p1 f1
            subst e1
            obtain ⟨ap, cp, rfl⟩ := r1.slice
            have F1 := Lib.hid f1
            clear p1 p2 f1 kk
            go_wp2_with fail
            refine (P2.out _ (K00.out.trans K4.out)).mono ?_
            rintro e w5 ⟨q1, q2, kk⟩
            have K5 := Lib.hid (K4.out.trans kk)
            cases f2 : fewP m with
            | false =>
              have e2 := q2 f2
              subst e2
              clear q1 q2 f2 kk r1
              go_wp2
              go_ret
              exact ⟨rfl, K00.out.trans K5.out⟩
            | true =>
              obtain ⟨u2, e2, r2⟩ := q1 f2
              subst e2
              obtain ⟨aq, cq, rfl⟩ := r2.slice
              have RP := Lib.hid (r1.kp kk)
              have RQ := Lib.hid r2
              obtain ⟨o1, n1⟩ := fewP_ok F1.out
              obtain ⟨o2, n2⟩ := fewP_ok f2
              have OK := Lib.hid (show relOk l m = true by unfold relOk; rw [o1, o2]; rfl)
              have OKP := Lib.hid (fun i (h : i < (pls l).length) => pls_ok h)
              have OKQ := Lib.hid (fun i (h : i < (pls m).length) => pls_ok h)
              have HA := Lib.hid (fun r => hit_all (l := l) (m := m) r)
              have HNO := Lib.hid (fun r => hit_none (pls l) (pls m) r)
              have HST := Lib.hid (fun i j (h1 : i < (pls l).length) (h2 : j < (pls m).length) r => hit_step h1 h2 r)
              have HRW := Lib.hid (fun i r => hit_row (P := pls l) (Q := pls m) (i := i) r)
              have np : (pls l).length ≤ 1000 := by omega
              have nq : (pls m).length ≤ 1000 := by omega
              clear q1 q2 f2 kk r1 r2 o1 o2 n1 n2 F1 P1 P2
              generalize hP : pls l = P at *
              generalize hQ : pls m = Q at *
              clear hP hQ
              go_wp2
              go_loopw [10, 11] (fun mv iv wr => ∃ i M : Nat, i ≤ P.length ∧ mv = .int .i64 M ∧ iv = .int .i64 i ∧ Hid (M < 8192) ∧ Hid (bitsP M 0 (hitP P Q i 0)) ∧ Hid (Kp w5 wr)) (fun _ iv _ => P.length - (intOf iv).toNat)
              case atStart => exact ⟨0, 0, Nat.zero_le _, rfl, rfl, Lib.hid (by decide), Lib.hid (bits_start HNO.out), Lib.hid (Kp.refl _)⟩
              case round =>
                obtain ⟨i, M, hi, rfl, rfl, LM, BM, J⟩ := hrel
                obtain ⟨wo, hwo⟩ : ∃ x, x = wr := ⟨_, rfl⟩
                subst hwo
                by_cases hlt : i < P.length
                · have q1 : decide ((i : Int) < (P.length : Int)) = true := decide_eq_true (by omega)
                  have q1n : decide (i < P.length) = true := decide_eq_true hlt
                  have HLT := Lib.hid hlt
                  go_wp2
                  go_loopw [10, 12] (fun mv jv wr => ∃ j M2 : Nat, j ≤ Q.length ∧ mv = .int .i64 M2 ∧ jv = .int .i64 j ∧ Hid (M2 < 8192) ∧ Hid (bitsP M2 0 (hitP P Q i j)) ∧ Hid (Kp wo wr)) (fun _ jv _ => Q.length - (intOf jv).toNat)
                  case atStart => exact ⟨0, M, Nat.zero_le _, rfl, rfl, LM, BM, Lib.hid (Kp.refl _)⟩
                  case round =>
                    obtain ⟨j, M2, hj, rfl, rfl, LM2, BM2, JJ⟩ := hrel
                    obtain ⟨wi, hwi⟩ : ∃ x, x = wr := ⟨_, rfl⟩
                    subst hwi
                    by_cases hlq : j < Q.length
                    · have q2 : decide ((j : Int) < (Q.length : Int)) = true := decide_eq_true (by omega)
                      have q2n : decide (j < Q.length) = true := decide_eq_true hlq
                      rcases RP.out.kp (J.out.trans JJ.out) with ⟨_, _, _, e⟩ | ⟨bp, op, cpp, ev, hc, hmx, hx⟩
                      · rw [e] at hlt; simp at hlt
                      cases ev
                      rcases RQ.out.kp (J.out.trans JJ.out) with ⟨_, _, _, e⟩ | ⟨bq, oq, cqq, ev, hc2, hmx2, hx2⟩
                      · rw [e] at hlq; simp at hlq
                      cases ev
                      obtain ⟨d1, d2⟩ := hx i hlt
                      obtain ⟨d3, d4⟩ := hx2 j hlq
                      obtain ⟨v1, v2, v3⟩ := OKP.out i hlt
                      obtain ⟨v4, v5, v6⟩ := OKQ.out j hlq
                      have ST := HST.out i j hlt hlq
                      obtain ⟨p, hp⟩ : ∃ p, at_ P i = p := ⟨_, rfl⟩
                      obtain ⟨q, hq⟩ : ∃ q, at_ Q j = q := ⟨_, rfl⟩
                      rw [hp] at d1 d2 v1 v2 v3 ST
                      rw [hq] at d3 d4 v4 v5 v6 ST
                      obtain ⟨ps, pt⟩ := p
                      obtain ⟨qs, qt⟩ := q
                      simp only at d1 d2 d3 d4 v1 v2 v3 v4 v5 v6 ST
                      have CO := Lib.hid (fun w1 => aof_any ps pt qs qt w1 (by omega) (by omega) (by omega) (by omega) (by omega) (by omega) (by omega) (by omega))
                      have iv : ivB ps pt qs qt = true := decide_eq_true (by omega)
                      rw [show relV ps pt qs qt = rel ps pt qs qt by unfold relV; rw [iv]; rfl, iv] at CO
                      have rb := rel_bd ps pt qs qt
                      generalize rel ps pt qs qt = rr at *
                      obtain ⟨x, rfl⟩ := Int.eq_ofNat_of_zero_le rb.1
                      have x12 : x ≤ 12 := by omega
                      have wp := ak_pow x12
                      have A2 : bits .or .i64 (M2 : Int) (IntKind.i64.wrap (2 ^ x)) = ((M2 ||| 2 ^ x : Nat) : Int) := by rw [wp]; exact ak_or LM2.out (ak_lt x12)
                      have A2w : bits .or .i64 (M2 : Int) (wrap64 (2 ^ x)) = ((M2 ||| 2 ^ x : Nat) : Int) := by
                        have w64 : wrap64 ((2 : Int) ^ x) = IntKind.i64.wrap (2 ^ x) := by generalize (2 : Int) ^ x = y; rw [IntKind.wrap_i64]; unfold wrap64; omega
                        rw [w64]
                        exact A2
                      have LM3 := Lib.hid (ask_lt LM2.out x12)
                      have BM3 := Lib.hid (bits_hit (j := x) BM2.out (fun r _ => (ST r).trans (or_congr Iff.rfl ⟨fun h => by omega, fun h => by omega⟩)))
                      generalize hy : M2 ||| 2 ^ x = y at A2 A2w LM3 BM3
                      have z1 : (0 : Int) ≤ (i : Int) := by omega
                      have z2 : (0 : Int) ≤ (j : Int) := by omega
                      have z3 : (i : Int) < (P.length : Int) := by omega
                      have z4 : (j : Int) < (Q.length : Int) := by omega
                      have KS := Lib.hid (fun w' (kq : Kp wi w') => show w'.cell? ⟨bp, op + i * 2, none⟩ = some (.int .i64 ps) ∧ w'.cell? ⟨bp, op + i * 2 + 1, none⟩ = some (.int .i64 pt) ∧ w'.cell? ⟨bq, oq + j * 2, none⟩ = some (.int .i64 qs) ∧ w'.cell? ⟨bq, oq + j * 2 + 1, none⟩ = some (.int .i64 qt) ∧ Kp wi w' from ⟨cell_up kq d1, cell_up kq d2, cell_up kq d3, cell_up kq d4, kq⟩)
                      have k00 : Kp wi wi := Kp.refl _
                      clear hx hc hmx hx2 hc2 hmx2 d1 d2 d3 d4 hp hq ST iv rb wp hy v1 v2 v3 v4 v5 v6
                      go_upto_region 15 with fail
                      refine wp_region_held_drew (S := fun w' => w'.cell? ⟨bp, op + i * 2, none⟩ = some (.int .i64 ps) ∧ w'.cell? ⟨bp, op + i * 2 + 1, none⟩ = some (.int .i64 pt) ∧ w'.cell? ⟨bq, oq + j * 2, none⟩ = some (.int .i64 qs) ∧ w'.cell? ⟨bq, oq + j * 2 + 1, none⟩ = some (.int .i64 qt) ∧ Kp wi w') (by kernel_rfl) ?_ (fun hHeld0 => ?_)
                      · (try dsimp only); exact KS.out _ (by first | with_reducible exact k00 | ((repeat (first | with_reducible refine Kp.trans ?_ (Kp.drew _) | with_reducible refine Kp.trans ?_ (Kp.alloc _ _))); with_reducible exact k00))
                      refine tkW (v := ?_) 0 raA0 rfl (by kernel_rfl) (by kernel_rfl) (by kernel_rfl) (fun _ _ _ h => h) (by rfl) ?_ (by assumption) ?_
                      rotate_left
                      · intro w hSw; (try dsimp only at hSw); go_simp; (try with_reducible rfl)
                      (try simp only [Act.put, raA0, List.setIfInBounds_toArray, List.set_cons_zero, List.set_cons_succ])
                      refine tkW (v := ?_) 1 raA1 rfl (by kernel_rfl) (by kernel_rfl) (by kernel_rfl) (fun _ _ _ h => h) (by rfl) ?_ (by assumption) ?_
                      rotate_left
                      · intro w hSw; (try dsimp only at hSw); go_simp; (try with_reducible rfl)
                      (try simp only [Act.put, raA1, List.setIfInBounds_toArray, List.set_cons_zero, List.set_cons_succ])
                      refine tkW (v := ?_) 2 raA2 rfl (by kernel_rfl) (by kernel_rfl) (by kernel_rfl) (fun _ _ _ h => h) (by rfl) ?_ (by assumption) ?_
                      rotate_left
                      · intro w hSw; (try dsimp only at hSw); go_simp; (try with_reducible rfl)
                      (try simp only [Act.put, raA2, List.setIfInBounds_toArray, List.set_cons_zero, List.set_cons_succ])
                      refine tkW (v := ?_) 3 raA3 rfl (by kernel_rfl) (by kernel_rfl) (by kernel_rfl) (fun _ _ _ h => h) (by rfl) ?_ (by assumption) ?_
                      rotate_left
                      · intro w hSw; (try dsimp only at hSw); go_simp; (try with_reducible rfl)
                      (try simp only [Act.put, raA3, List.setIfInBounds_toArray, List.set_cons_zero, List.set_cons_succ])
                      refine tkW (v := ?_) 4 raA4 rfl (by kernel_rfl) (by kernel_rfl) (by kernel_rfl) (fun _ _ _ h => h) (by rfl) ?_ (by assumption) ?_
                      rotate_left
                      · intro w hSw; (try dsimp only at hSw); go_simp; (try with_reducible rfl)
                      (try simp only [Act.put, raA4, List.setIfInBounds_toArray, List.set_cons_zero, List.set_cons_succ])
                      refine tkW (v := ?_) 5 raA5 rfl (by kernel_rfl) (by kernel_rfl) (by kernel_rfl) (fun _ _ _ h => h) (by rfl) ?_ (by assumption) ?_
                      rotate_left
                      · intro w hSw; (try dsimp only at hSw); go_simp; (try with_reducible rfl)
                      (try simp only [Act.put, raA5, List.setIfInBounds_toArray, List.set_cons_zero, List.set_cons_succ])
                      refine tkW (v := ?_) 6 raA6 rfl (by kernel_rfl) (by kernel_rfl) (by kernel_rfl) (fun _ _ _ h => h) (by rfl) ?_ (by assumption) ?_
                      rotate_left
                      · intro w hSw; (try dsimp only at hSw); go_simp; (try with_reducible rfl)
                      (try simp only [Act.put, raA6, List.setIfInBounds_toArray, List.set_cons_zero, List.set_cons_succ])
                      refine tkW (v := ?_) 7 raA7 rfl (by kernel_rfl) (by kernel_rfl) (by kernel_rfl) (fun _ _ _ h => h) (by rfl) ?_ (by assumption) ?_
                      rotate_left
                      · intro w hSw; (try dsimp only at hSw); go_simp; (try with_reducible rfl)
                      (try simp only [Act.put, raA7, List.setIfInBounds_toArray, List.set_cons_zero, List.set_cons_succ])
                      refine tkE 8 raA8 rfl (by kernel_rfl) (fun K hK => ?_)
                      go_simp
                      (refine (CO.out _).mono ?_; rintro e wq ⟨rfl, kq1⟩; have kkq : Kp wi wq := Kp.trans (show Kp wi _ from (by first | with_reducible exact k00 | ((repeat (first | with_reducible refine Kp.trans ?_ (Kp.drew _) | with_reducible refine Kp.trans ?_ (Kp.alloc _ _))); with_reducible exact k00))) kq1; clear kq1)
                      (try go_wp2_with fail)
                      refine hK.out _ _ ?_ (fun hHeld1 => ?_)
                      · (try dsimp only); exact KS.out _ (by first | with_reducible exact kkq | ((repeat (first | with_reducible refine Kp.trans ?_ (Kp.drew _) | with_reducible refine Kp.trans ?_ (Kp.alloc _ _))); with_reducible exact kkq))
                      clear hK K hHeld0
                      (try simp only [Act.put, raA8, List.setIfInBounds_toArray, List.set_cons_zero, List.set_cons_succ])
                      refine tkW (v := ?_) 9 raA9 rfl (by kernel_rfl) (by kernel_rfl) (by kernel_rfl) (fun _ _ _ h => h) (by rfl) ?_ (by assumption) ?_
                      rotate_left
                      · intro w hSw; (try dsimp only at hSw); go_simp; (try with_reducible rfl)
                      (try simp only [Act.put, raA9, List.setIfInBounds_toArray, List.set_cons_zero, List.set_cons_succ])
                      refine tkW (v := ?_) 10 raA10 rfl (by kernel_rfl) (by kernel_rfl) (by kernel_rfl) (fun _ _ _ h => h) (by rfl) ?_ (by assumption) ?_
                      rotate_left
                      · intro w hSw; (try dsimp only at hSw); go_simp; (try with_reducible rfl)
                      (try simp only [Act.put, raA10, List.setIfInBounds_toArray, List.set_cons_zero, List.set_cons_succ])
                      refine tkW (v := ?_) 11 raA11 rfl (by kernel_rfl) (by kernel_rfl) (by kernel_rfl) (fun _ _ _ h => h) (by rfl) ?_ (by assumption) ?_
                      rotate_left
                      · intro w hSw; (try dsimp only at hSw); go_simp; (try with_reducible rfl)
                      (try simp only [Act.put, raA11, List.setIfInBounds_toArray, List.set_cons_zero, List.set_cons_succ])
                      refine tkW (v := ?_) 12 raA12 rfl (by kernel_rfl) (by kernel_rfl) (by kernel_rfl) (fun _ _ _ h => h) (by rfl) ?_ (by assumption) ?_
                      rotate_left
                      · intro w hSw; (try dsimp only at hSw); go_simp; (try with_reducible rfl)
                      (try simp only [Act.put, raA12, List.setIfInBounds_toArray, List.set_cons_zero, List.set_cons_succ])
                      refine tkW (v := ?_) 13 raA13 rfl (by kernel_rfl) (by kernel_rfl) (by kernel_rfl) (fun _ _ _ h => h) (by rfl) ?_ (by assumption) ?_
                      rotate_left
                      · intro w hSw; (try dsimp only at hSw); go_simp; (try with_reducible rfl)
                      (try simp only [Act.put, raA13, List.setIfInBounds_toArray, List.set_cons_zero, List.set_cons_succ])
                      refine wpAnyH_done (by kernel_rfl) ?_ _
                      go_wp2
                      go_roundw
                      case rel => exact ⟨j + 1, y, by omega, by go_num, by go_num, LM3, BM3, Lib.hid (JJ.out.trans (Kp.trans kkq (by first | with_reducible exact Kp.refl _ | with_reducible exact Kp.alloc _ _ | with_reducible exact (Kp.alloc _ _).trans (Kp.alloc _ _) | with_reducible exact ((Kp.alloc _ _).trans (Kp.alloc _ _)).trans (Kp.alloc _ _) | with_reducible exact Kp.drew _ | with_reducible exact Kp.drewN _ _)))⟩
                      case measure => simp [intOf]; omega
                    · have q2 : decide ((j : Int) < (Q.length : Int)) = false := decide_eq_false (by omega)
                      have ej : j = Q.length := by omega
                      subst ej
                      have BM3 := Lib.hid (show bitsP M2 0 (hitP P Q (i + 1) 0) from fun r hr => (BM2.out r hr).trans (or_congr Iff.rfl (HRW.out i r)))
                      go_wp2
                      go_roundw
                      case rel => exact ⟨i + 1, M2, by have := HLT.out; omega, by go_num, by go_num, LM2, BM3, Lib.hid (J.out.trans JJ.out)⟩
                      case measure => have := HLT.out; simp [intOf]; omega
                · have q1 : decide ((i : Int) < (P.length : Int)) = false := decide_eq_false (by omega)
                  have ei : i = P.length := by omega
                  subst ei
                  have K6 := Lib.hid (K5.out.trans J.out)
                  have E1 := Lib.hid (show relM l m = M by
                    have h := bitsN_eq LM.out BM.out
                    rw [h]
                    unfold relM
                    rw [if_pos OK.out]
                    exact bitsN_congr fun r _ => (HA.out r).symm)
                  have E2 := Lib.hid (show relE l m = 0 from if_pos OK.out)
                  rw [E1.out, E2.out] at C1
                  have gg : ((M : Int) == (M : Int)) = true := by simp
                  have gn : (M == M) = true := by simp
                  go_wp2_with fail
                  refine (C1.out _ (K00.out.trans K6.out)).mono ?_
                  rintro e w7 ⟨rfl, kk⟩
                  have K7 := Lib.hid (K6.out.trans kk)
                  clear kk
                  go_wp2
                  go_ret
                  exact ⟨rfl, K00.out.trans K7.out⟩
end Go.Proofs.YtamdjbpgkiekcaaGreatDoor
