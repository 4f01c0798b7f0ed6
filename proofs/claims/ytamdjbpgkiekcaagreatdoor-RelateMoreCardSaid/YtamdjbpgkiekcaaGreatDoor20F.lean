import Derived.Test.YtamdjbpgkiekcaaGreatDoor20D
import Derived.Test.YtamdjbpgkiekcaaGreatDoorGEnv
namespace Go.Proofs.YtamdjbpgkiekcaaGreatDoor
open Go.RowKit
set_option linter.unusedVariables false
set_option linter.unusedSimpArgs false
theorem lsOk_app20 {l m : List LF} (h : LsOk l) (g : LsOk m) : LsOk (l ++ m) := fun f hf => (List.mem_append.1 hf).elim (h f) (g f)
theorem relOk_app (l q m : List LF) : relOk (l ++ q) m = (relOk l m && relOk q m) := by
 unfold relOk okAll
 rw [List.all_append]
 cases l.all (fun f => startsB (famR f) && endsB (famR f)) <;> cases q.all (fun f => startsB (famR f) && endsB (famR f)) <;> simp
theorem relM_app {l q m : List LF} (h1 : relOk l m = true) (h2 : relOk q m = true) : relM (l ++ q) m = relM l m ||| relM q m := by
 have h3 : relOk (l ++ q) m = true := by rw [relOk_app, h1, h2]; rfl
 refine mask_ext (relM_lt _ _) (Nat.or_lt_two_pow (n := 13) (relM_lt _ _) (relM_lt _ _)) fun r hr => ?_
 rw [relM_bit h3 hr, Nat.testBit_or, Bool.or_eq_true, relM_bit h1 hr, relM_bit h2 hr]
 have ha : ∀ S T, hasP (l ++ q) S T ↔ hasP l S T ∨ hasP q S T := fun S T => by unfold hasP hasL; rw [List.any_append, Bool.or_eq_true]
 unfold relP
 constructor
 ·rintro ⟨S, T, S', T', a, b, c⟩
  rcases (ha S T).1 a with a | a
  ·exact .inl ⟨S, T, S', T', a, b, c⟩
  ·exact .inr ⟨S, T, S', T', a, b, c⟩
 ·rintro (⟨S, T, S', T', a, b, c⟩ | ⟨S, T, S', T', a, b, c⟩)
  ·exact ⟨S, T, S', T', (ha S T).2 (.inl a), b, c⟩
  ·exact ⟨S, T, S', T', (ha S T).2 (.inr a), b, c⟩
set_option maxHeartbeats 16000000 in
set_option maxRecDepth 100000 in
theorem relateMore_walk (vl : Value) (l : List LF) (vq : Value) (q : List LF) (vm : Value) (m : List LF) (w : World) (rl : LeavesAt w vl l) (gl : ∀ f ∈ l, LeafG f) (rq : LeavesAt w vq q) (gq : ∀ f ∈ q, LeafG f) (rm : LeavesAt w vm m) (gm : ∀ f ∈ m, LeafG f) (T : Tabs20 w) :
  Calls Tryz.prog 7 #[vl, vq, vm] w fun e w' => e = .returned (.bool true) ∧ Kp w w' := by
 have CA := Lib.hid (fun w1 (k : Kp w w1) => awake20 w1 (T.kp k))
 have CF := Lib.hid (fun w1 (k : Kp w w1) => few20_any _ l w1 (rl.kp k) gl)
 have CQ := Lib.hid (fun w1 (k : Kp w w1) => few20_any _ q w1 (rq.kp k) gq)
 have CG := Lib.hid (fun w1 (k : Kp w w1) => few20_any _ m w1 (rm.kp k) gm)
 have OKL := Lib.hid (fun h => few20_ok (l := l) h gl)
 have OKQ := Lib.hid (fun h => few20_ok (l := q) h gq)
 have OKM := Lib.hid (fun h => few20_ok (l := m) h gm)
 generalize few20 l = fl at *
 generalize few20 q = fq at *
 generalize few20 m = fm at *
 obtain ⟨adl, cal, rfl⟩ := rl.slice
 obtain ⟨adq, caq, rfl⟩ := rq.slice
 obtain ⟨adm, cam, rfl⟩ := rm.slice
 obtain ⟨W0, hW⟩ : ∃ W0, W0 = w := ⟨_, rfl⟩
 subst hW
 have K00 := Lib.hid (Kp.refl W0)
 have K0 := Lib.hid (Kp.refl W0)
 cases fl with
 | false =>
  clear rl rq rm T gl gq gm OKL OKQ OKM
  go_enter Tryz.func7, Tryz.ntmps7
  go_wp2_with fail
  refine (CA.out _ (K00.out.trans (by first | with_reducible exact K0.out | with_reducible exact K0.out.trans (Kp.alloc _ _) | with_reducible exact (K0.out.trans (Kp.alloc _ _)).trans (Kp.alloc _ _) | with_reducible exact ((K0.out.trans (Kp.alloc _ _)).trans (Kp.alloc _ _)).trans (Kp.alloc _ _) | with_reducible exact K0.out.trans (Kp.drew _) | with_reducible exact K0.out.trans (Kp.drewN _ _)))).mono ?_
  rintro e w1 ⟨rfl, kk⟩
  have K1 := Lib.hid ((show Kp W0 _ from (by first | with_reducible exact K0.out | with_reducible exact K0.out.trans (Kp.alloc _ _) | with_reducible exact (K0.out.trans (Kp.alloc _ _)).trans (Kp.alloc _ _) | with_reducible exact ((K0.out.trans (Kp.alloc _ _)).trans (Kp.alloc _ _)).trans (Kp.alloc _ _) | with_reducible exact K0.out.trans (Kp.drew _) | with_reducible exact K0.out.trans (Kp.drewN _ _))).trans kk)
  clear kk
  go_wp2_with fail
  refine (CF.out _ (K00.out.trans (by first | with_reducible exact K1.out | with_reducible exact K1.out.trans (Kp.alloc _ _) | with_reducible exact (K1.out.trans (Kp.alloc _ _)).trans (Kp.alloc _ _) | with_reducible exact ((K1.out.trans (Kp.alloc _ _)).trans (Kp.alloc _ _)).trans (Kp.alloc _ _) | with_reducible exact K1.out.trans (Kp.drew _) | with_reducible exact K1.out.trans (Kp.drewN _ _)))).mono ?_
  rintro e w2 ⟨rfl, kk⟩
  have K2 := Lib.hid ((show Kp W0 _ from (by first | with_reducible exact K1.out | with_reducible exact K1.out.trans (Kp.alloc _ _) | with_reducible exact (K1.out.trans (Kp.alloc _ _)).trans (Kp.alloc _ _) | with_reducible exact ((K1.out.trans (Kp.alloc _ _)).trans (Kp.alloc _ _)).trans (Kp.alloc _ _) | with_reducible exact K1.out.trans (Kp.drew _) | with_reducible exact K1.out.trans (Kp.drewN _ _))).trans kk)
  clear kk
  go_wp2
  go_ret
  exact ⟨rfl, K00.out.trans K2.out⟩
 | true =>
  obtain ⟨ol, nl⟩ := OKL.out (by first | rfl | trivial)
  cases fq with
  | false =>
   clear rl rq rm T gl gq gm OKL OKQ OKM ol nl
   go_enter Tryz.func7, Tryz.ntmps7
   go_wp2_with fail
   refine (CA.out _ (K00.out.trans (by first | with_reducible exact K0.out | with_reducible exact K0.out.trans (Kp.alloc _ _) | with_reducible exact (K0.out.trans (Kp.alloc _ _)).trans (Kp.alloc _ _) | with_reducible exact ((K0.out.trans (Kp.alloc _ _)).trans (Kp.alloc _ _)).trans (Kp.alloc _ _) | with_reducible exact K0.out.trans (Kp.drew _) | with_reducible exact K0.out.trans (Kp.drewN _ _)))).mono ?_
   rintro e w1 ⟨rfl, kk⟩
   have K1 := Lib.hid ((show Kp W0 _ from (by first | with_reducible exact K0.out | with_reducible exact K0.out.trans (Kp.alloc _ _) | with_reducible exact (K0.out.trans (Kp.alloc _ _)).trans (Kp.alloc _ _) | with_reducible exact ((K0.out.trans (Kp.alloc _ _)).trans (Kp.alloc _ _)).trans (Kp.alloc _ _) | with_reducible exact K0.out.trans (Kp.drew _) | with_reducible exact K0.out.trans (Kp.drewN _ _))).trans kk)
   clear kk
   go_wp2_with fail
   refine (CF.out _ (K00.out.trans (by first | with_reducible exact K1.out | with_reducible exact K1.out.trans (Kp.alloc _ _) | with_reducible exact (K1.out.trans (Kp.alloc _ _)).trans (Kp.alloc _ _) | with_reducible exact ((K1.out.trans (Kp.alloc _ _)).trans (Kp.alloc _ _)).trans (Kp.alloc _ _) | with_reducible exact K1.out.trans (Kp.drew _) | with_reducible exact K1.out.trans (Kp.drewN _ _)))).mono ?_
   rintro e w2 ⟨rfl, kk⟩
   have K2 := Lib.hid ((show Kp W0 _ from (by first | with_reducible exact K1.out | with_reducible exact K1.out.trans (Kp.alloc _ _) | with_reducible exact (K1.out.trans (Kp.alloc _ _)).trans (Kp.alloc _ _) | with_reducible exact ((K1.out.trans (Kp.alloc _ _)).trans (Kp.alloc _ _)).trans (Kp.alloc _ _) | with_reducible exact K1.out.trans (Kp.drew _) | with_reducible exact K1.out.trans (Kp.drewN _ _))).trans kk)
   clear kk
   go_wp2_with fail
   refine (CQ.out _ (K00.out.trans (by first | with_reducible exact K2.out | with_reducible exact K2.out.trans (Kp.alloc _ _) | with_reducible exact (K2.out.trans (Kp.alloc _ _)).trans (Kp.alloc _ _) | with_reducible exact ((K2.out.trans (Kp.alloc _ _)).trans (Kp.alloc _ _)).trans (Kp.alloc _ _) | with_reducible exact K2.out.trans (Kp.drew _) | with_reducible exact K2.out.trans (Kp.drewN _ _)))).mono ?_
   rintro e w3 ⟨rfl, kk⟩
   have K3 := Lib.hid ((show Kp W0 _ from (by first | with_reducible exact K2.out | with_reducible exact K2.out.trans (Kp.alloc _ _) | with_reducible exact (K2.out.trans (Kp.alloc _ _)).trans (Kp.alloc _ _) | with_reducible exact ((K2.out.trans (Kp.alloc _ _)).trans (Kp.alloc _ _)).trans (Kp.alloc _ _) | with_reducible exact K2.out.trans (Kp.drew _) | with_reducible exact K2.out.trans (Kp.drewN _ _))).trans kk)
   clear kk
   go_wp2
   go_ret
   exact ⟨rfl, K00.out.trans K3.out⟩
  | true =>
   obtain ⟨oq, nq⟩ := OKQ.out (by first | rfl | trivial)
   cases fm with
   | false =>
    clear rl rq rm T gl gq gm OKL OKQ OKM ol nl oq nq
    go_enter Tryz.func7, Tryz.ntmps7
    go_wp2_with fail
    refine (CA.out _ (K00.out.trans (by first | with_reducible exact K0.out | with_reducible exact K0.out.trans (Kp.alloc _ _) | with_reducible exact (K0.out.trans (Kp.alloc _ _)).trans (Kp.alloc _ _) | with_reducible exact ((K0.out.trans (Kp.alloc _ _)).trans (Kp.alloc _ _)).trans (Kp.alloc _ _) | with_reducible exact K0.out.trans (Kp.drew _) | with_reducible exact K0.out.trans (Kp.drewN _ _)))).mono ?_
    rintro e w1 ⟨rfl, kk⟩
    have K1 := Lib.hid ((show Kp W0 _ from (by first | with_reducible exact K0.out | with_reducible exact K0.out.trans (Kp.alloc _ _) | with_reducible exact (K0.out.trans (Kp.alloc _ _)).trans (Kp.alloc _ _) | with_reducible exact ((K0.out.trans (Kp.alloc _ _)).trans (Kp.alloc _ _)).trans (Kp.alloc _ _) | with_reducible exact K0.out.trans (Kp.drew _) | with_reducible exact K0.out.trans (Kp.drewN _ _))).trans kk)
    clear kk
    go_wp2_with fail
    refine (CF.out _ (K00.out.trans (by first | with_reducible exact K1.out | with_reducible exact K1.out.trans (Kp.alloc _ _) | with_reducible exact (K1.out.trans (Kp.alloc _ _)).trans (Kp.alloc _ _) | with_reducible exact ((K1.out.trans (Kp.alloc _ _)).trans (Kp.alloc _ _)).trans (Kp.alloc _ _) | with_reducible exact K1.out.trans (Kp.drew _) | with_reducible exact K1.out.trans (Kp.drewN _ _)))).mono ?_
    rintro e w2 ⟨rfl, kk⟩
    have K2 := Lib.hid ((show Kp W0 _ from (by first | with_reducible exact K1.out | with_reducible exact K1.out.trans (Kp.alloc _ _) | with_reducible exact (K1.out.trans (Kp.alloc _ _)).trans (Kp.alloc _ _) | with_reducible exact ((K1.out.trans (Kp.alloc _ _)).trans (Kp.alloc _ _)).trans (Kp.alloc _ _) | with_reducible exact K1.out.trans (Kp.drew _) | with_reducible exact K1.out.trans (Kp.drewN _ _))).trans kk)
    clear kk
    go_wp2_with fail
    refine (CQ.out _ (K00.out.trans (by first | with_reducible exact K2.out | with_reducible exact K2.out.trans (Kp.alloc _ _) | with_reducible exact (K2.out.trans (Kp.alloc _ _)).trans (Kp.alloc _ _) | with_reducible exact ((K2.out.trans (Kp.alloc _ _)).trans (Kp.alloc _ _)).trans (Kp.alloc _ _) | with_reducible exact K2.out.trans (Kp.drew _) | with_reducible exact K2.out.trans (Kp.drewN _ _)))).mono ?_
    rintro e w3 ⟨rfl, kk⟩
    have K3 := Lib.hid ((show Kp W0 _ from (by first | with_reducible exact K2.out | with_reducible exact K2.out.trans (Kp.alloc _ _) | with_reducible exact (K2.out.trans (Kp.alloc _ _)).trans (Kp.alloc _ _) | with_reducible exact ((K2.out.trans (Kp.alloc _ _)).trans (Kp.alloc _ _)).trans (Kp.alloc _ _) | with_reducible exact K2.out.trans (Kp.drew _) | with_reducible exact K2.out.trans (Kp.drewN _ _))).trans kk)
    clear kk
    go_wp2_with fail
    refine (CG.out _ (K00.out.trans (by first | with_reducible exact K3.out | with_reducible exact K3.out.trans (Kp.alloc _ _) | with_reducible exact (K3.out.trans (Kp.alloc _ _)).trans (Kp.alloc _ _) | with_reducible exact ((K3.out.trans (Kp.alloc _ _)).trans (Kp.alloc _ _)).trans (Kp.alloc _ _) | with_reducible exact K3.out.trans (Kp.drew _) | with_reducible exact K3.out.trans (Kp.drewN _ _)))).mono ?_
    rintro e w4 ⟨rfl, kk⟩
    have K4 := Lib.hid ((show Kp W0 _ from (by first | with_reducible exact K3.out | with_reducible exact K3.out.trans (Kp.alloc _ _) | with_reducible exact (K3.out.trans (Kp.alloc _ _)).trans (Kp.alloc _ _) | with_reducible exact ((K3.out.trans (Kp.alloc _ _)).trans (Kp.alloc _ _)).trans (Kp.alloc _ _) | with_reducible exact K3.out.trans (Kp.drew _) | with_reducible exact K3.out.trans (Kp.drewN _ _))).trans kk)
    clear kk
    go_wp2
    go_ret
    exact ⟨rfl, K00.out.trans K4.out⟩
   | true =>
    obtain ⟨om, nm⟩ := OKM.out (by first | rfl | trivial)
    have C1 := Lib.hid (fun w1 (k : Kp W0 w1) => relations_any _ _ l m w1 (rl.kp k) (rm.kp k) ol om (by omega) (by omega) (T.kp k).1)
    have C2 := Lib.hid (fun w1 (k : Kp W0 w1) => relations_any _ _ q m w1 (rq.kp k) (rm.kp k) oq om (by omega) (by omega) (T.kp k).1)
    have C3 := Lib.hid (fun v w1 (k : Kp W0 w1) (h : LeavesAt w1 v (l ++ q)) => relations_any v _ (l ++ q) m w1 h (rm.kp k) (lsOk_app20 ol oq) om (by rw [List.length_append]; omega) (by omega) (T.kp k).1)
    have RE1 : relE l m = if relOk l m = true then 0 else 8 := rfl
    have RE2 : relE q m = if relOk q m = true then 0 else 8 := rfl
    have RE3 : relE (l ++ q) m = if relOk (l ++ q) m = true then 0 else 8 := rfl
    have M0 : relOk (l ++ q) m = false → relM (l ++ q) m = 0 := fun h => if_neg (by rw [h]; simp)
    have MA := relM_app (l := l) (q := q) (m := m)
    have AO := ak_or (relM_lt l m) (relM_lt q m)
    rw [relOk_app] at RE3 M0
    generalize relM (l ++ q) m = M3 at *
    generalize relE (l ++ q) m = E3 at *
    generalize relM l m = M1 at *
    generalize relE l m = E1 at *
    generalize relM q m = M2 at *
    generalize relE q m = E2 at *
    have VL := Lib.hid rl
    have VM := Lib.hid rq
    clear rl rq rm T gl gq gm OKL OKQ OKM ol oq om nm
    cases h1 : relOk l m with
    | false =>
     have m0 := M0 (by rw [h1]; rfl)
     rw [h1] at RE1 RE3
     rw [if_neg (by simp)] at RE1 RE3
     subst RE1 RE3 m0
     clear M0 MA AO h1 RE2
     go_enter Tryz.func7, Tryz.ntmps7
     go_wp2_with fail
     refine (CA.out _ (K00.out.trans (by first | with_reducible exact K0.out | with_reducible exact K0.out.trans (Kp.alloc _ _) | with_reducible exact (K0.out.trans (Kp.alloc _ _)).trans (Kp.alloc _ _) | with_reducible exact ((K0.out.trans (Kp.alloc _ _)).trans (Kp.alloc _ _)).trans (Kp.alloc _ _) | with_reducible exact K0.out.trans (Kp.drew _) | with_reducible exact K0.out.trans (Kp.drewN _ _)))).mono ?_
     rintro e w1 ⟨rfl, kk⟩
     have K1 := Lib.hid ((show Kp W0 _ from (by first | with_reducible exact K0.out | with_reducible exact K0.out.trans (Kp.alloc _ _) | with_reducible exact (K0.out.trans (Kp.alloc _ _)).trans (Kp.alloc _ _) | with_reducible exact ((K0.out.trans (Kp.alloc _ _)).trans (Kp.alloc _ _)).trans (Kp.alloc _ _) | with_reducible exact K0.out.trans (Kp.drew _) | with_reducible exact K0.out.trans (Kp.drewN _ _))).trans kk)
     clear kk
     go_wp2_with fail
     refine (CF.out _ (K00.out.trans (by first | with_reducible exact K1.out | with_reducible exact K1.out.trans (Kp.alloc _ _) | with_reducible exact (K1.out.trans (Kp.alloc _ _)).trans (Kp.alloc _ _) | with_reducible exact ((K1.out.trans (Kp.alloc _ _)).trans (Kp.alloc _ _)).trans (Kp.alloc _ _) | with_reducible exact K1.out.trans (Kp.drew _) | with_reducible exact K1.out.trans (Kp.drewN _ _)))).mono ?_
     rintro e w2 ⟨rfl, kk⟩
     have K2 := Lib.hid ((show Kp W0 _ from (by first | with_reducible exact K1.out | with_reducible exact K1.out.trans (Kp.alloc _ _) | with_reducible exact (K1.out.trans (Kp.alloc _ _)).trans (Kp.alloc _ _) | with_reducible exact ((K1.out.trans (Kp.alloc _ _)).trans (Kp.alloc _ _)).trans (Kp.alloc _ _) | with_reducible exact K1.out.trans (Kp.drew _) | with_reducible exact K1.out.trans (Kp.drewN _ _))).trans kk)
     clear kk
     go_wp2_with fail
     refine (CQ.out _ (K00.out.trans (by first | with_reducible exact K2.out | with_reducible exact K2.out.trans (Kp.alloc _ _) | with_reducible exact (K2.out.trans (Kp.alloc _ _)).trans (Kp.alloc _ _) | with_reducible exact ((K2.out.trans (Kp.alloc _ _)).trans (Kp.alloc _ _)).trans (Kp.alloc _ _) | with_reducible exact K2.out.trans (Kp.drew _) | with_reducible exact K2.out.trans (Kp.drewN _ _)))).mono ?_
     rintro e w3 ⟨rfl, kk⟩
     have K3 := Lib.hid ((show Kp W0 _ from (by first | with_reducible exact K2.out | with_reducible exact K2.out.trans (Kp.alloc _ _) | with_reducible exact (K2.out.trans (Kp.alloc _ _)).trans (Kp.alloc _ _) | with_reducible exact ((K2.out.trans (Kp.alloc _ _)).trans (Kp.alloc _ _)).trans (Kp.alloc _ _) | with_reducible exact K2.out.trans (Kp.drew _) | with_reducible exact K2.out.trans (Kp.drewN _ _))).trans kk)
     clear kk
     go_wp2_with fail
     refine (CG.out _ (K00.out.trans (by first | with_reducible exact K3.out | with_reducible exact K3.out.trans (Kp.alloc _ _) | with_reducible exact (K3.out.trans (Kp.alloc _ _)).trans (Kp.alloc _ _) | with_reducible exact ((K3.out.trans (Kp.alloc _ _)).trans (Kp.alloc _ _)).trans (Kp.alloc _ _) | with_reducible exact K3.out.trans (Kp.drew _) | with_reducible exact K3.out.trans (Kp.drewN _ _)))).mono ?_
     rintro e w4 ⟨rfl, kk⟩
     have K4 := Lib.hid ((show Kp W0 _ from (by first | with_reducible exact K3.out | with_reducible exact K3.out.trans (Kp.alloc _ _) | with_reducible exact (K3.out.trans (Kp.alloc _ _)).trans (Kp.alloc _ _) | with_reducible exact ((K3.out.trans (Kp.alloc _ _)).trans (Kp.alloc _ _)).trans (Kp.alloc _ _) | with_reducible exact K3.out.trans (Kp.drew _) | with_reducible exact K3.out.trans (Kp.drewN _ _))).trans kk)
     clear kk
     obtain ⟨i0, hi, hz0, hz1, hz2⟩ := info_parts infoLeaf
     have ke := Kp.alloc w4 (.cells #[] 47)
     have own0 : (w4.alloc (.cells #[] 47)).ownsRow W0.heap.size 47 4 (.slice (some ⟨w4.heap.size, 0, none⟩) 0 0) 0 (cellsV []) :=
      ⟨rfl, .inr ⟨w4.heap.size, 0, #[], rfl, K4.out.size, heap_at _ _ _ rfl, Nat.le_refl _, by decide, rfl, rfl⟩⟩
     have KE := Lib.hid (K4.out.trans ke)
     obtain ⟨ml, hml, rml, sml0⟩ := VL.out.src
     obtain ⟨mm, hmm, rmm, smm0⟩ := VM.out.src
     have sml := sml0 _ (K00.out.trans KE.out)
     have hl2 : (cellsV mm).length = q.length * 4 := by rw [cellsV_length, ← hmm, List.length_map]
     have one2 := cellsV_one rmm
     have H2 := Lib.hid hl2
     have HMM := Lib.hid hmm
     clear hl2 hmm
     have hl1 : (cellsV ml).length = l.length * 4 := by rw [cellsV_length, ← hml, List.length_map]
     have one1 := cellsV_one rml
     have H1 := Lib.hid hl1
     have HML := Lib.hid hml
     clear hl1 hml ke
     have RML := Lib.hid rml
     have RMM := Lib.hid rmm
     have zl : l.length ≤ 12 := nl
     have zm : q.length ≤ 12 := nq
     go_wp2_with (first
      | (at_builtin; refine wpList_app rfl (.tmp 30) (.tmp 31) 22 rfl W0.heap.size 47 i0 (.agg #[.bool false, .int .i64 0, .slice none 0 0, .slice none 0 0]) 4 64 Tryz.underlying22 hi hz0 hz1 hz2 rfl (by decide) _ _ _ rfl own0 _ _ _ rfl sml H1.out one1 (by unfold maxLen; omega) (by omega) KE.out.size ?_; intro v1 w5 own1 hgrow1 hat1; have K5 := Lib.hid (KE.out.grown hgrow1 (fun j hj => (own0.lt j hj).1));
         have smm := smm0 _ (K00.out.trans K5.out); have O1 := Lib.hid own1; clear hgrow1 hat1 own1)
      | (at_builtin; refine wpList_app rfl (.tmp 33) (.tmp 34) 22 rfl W0.heap.size 47 i0 (.agg #[.bool false, .int .i64 0, .slice none 0 0, .slice none 0 0]) 4 64 Tryz.underlying22 hi hz0 hz1 hz2 rfl (by decide) _ _ _ rfl O1.out _ _ _ rfl smm H2.out one2 (by unfold maxLen; omega) (by omega) K5.out.size ?_; intro v2 w6 own2 hgrow2 hat2; have K6 := Lib.hid (K5.out.grown hgrow2 (fun j hj => (O1.out.lt j hj).1)); have O2 := Lib.hid own2; clear hgrow2 hat2 own2))
     have OB := O2.out
     have BV : LeavesAt w6 v2 (l ++ q) := by
      have q : w6.ownsRow W0.heap.size 47 4 v2 (ml ++ mm).length (cellsV (ml ++ mm)) := by
       rw [cellsV_append, List.length_append, show ml.length = l.length by rw [← HML.out, List.length_map], show mm.length = q.length by rw [← HMM.out, List.length_map]]
       have := OB
       rw [Nat.zero_add] at this
       exact this
      have := leavesAt_own q ((RML.out.kp (K00.out.trans K6.out)).append (RMM.out.kp (K00.out.trans K6.out)))
      rwa [List.map_append, HML.out, HMM.out] at this
     have BL := Lib.hid BV
     clear OB BV one1 one2 sml sml0 smm0 rml rmm own0
     have G6 := Lib.hid (Kp.refl w6)
     refine (C1.out _ (K00.out.trans (by first | with_reducible exact K6.out | with_reducible exact K6.out.trans (Kp.alloc _ _) | with_reducible exact (K6.out.trans (Kp.alloc _ _)).trans (Kp.alloc _ _) | with_reducible exact ((K6.out.trans (Kp.alloc _ _)).trans (Kp.alloc _ _)).trans (Kp.alloc _ _) | with_reducible exact K6.out.trans (Kp.drew _) | with_reducible exact K6.out.trans (Kp.drewN _ _)))).mono ?_
     rintro e w7 ⟨rfl, kk⟩
     have K7 := Lib.hid ((show Kp W0 _ from (by first | with_reducible exact K6.out | with_reducible exact K6.out.trans (Kp.alloc _ _) | with_reducible exact (K6.out.trans (Kp.alloc _ _)).trans (Kp.alloc _ _) | with_reducible exact ((K6.out.trans (Kp.alloc _ _)).trans (Kp.alloc _ _)).trans (Kp.alloc _ _) | with_reducible exact K6.out.trans (Kp.drew _) | with_reducible exact K6.out.trans (Kp.drewN _ _))).trans kk)
     have G7 := Lib.hid (G6.out.trans ((show Kp w6 _ from (by first | with_reducible exact Kp.refl _ | with_reducible exact Kp.alloc _ _ | with_reducible exact (Kp.alloc _ _).trans (Kp.alloc _ _) | with_reducible exact ((Kp.alloc _ _).trans (Kp.alloc _ _)).trans (Kp.alloc _ _) | with_reducible exact Kp.drew _ | with_reducible exact Kp.drewN _ _)).trans kk))
     clear kk
     go_wp2_with fail
     refine (C2.out _ (K00.out.trans (by first | with_reducible exact K7.out | with_reducible exact K7.out.trans (Kp.alloc _ _) | with_reducible exact (K7.out.trans (Kp.alloc _ _)).trans (Kp.alloc _ _) | with_reducible exact ((K7.out.trans (Kp.alloc _ _)).trans (Kp.alloc _ _)).trans (Kp.alloc _ _) | with_reducible exact K7.out.trans (Kp.drew _) | with_reducible exact K7.out.trans (Kp.drewN _ _)))).mono ?_
     rintro e w8 ⟨rfl, kk⟩
     have K8 := Lib.hid ((show Kp W0 _ from (by first | with_reducible exact K7.out | with_reducible exact K7.out.trans (Kp.alloc _ _) | with_reducible exact (K7.out.trans (Kp.alloc _ _)).trans (Kp.alloc _ _) | with_reducible exact ((K7.out.trans (Kp.alloc _ _)).trans (Kp.alloc _ _)).trans (Kp.alloc _ _) | with_reducible exact K7.out.trans (Kp.drew _) | with_reducible exact K7.out.trans (Kp.drewN _ _))).trans kk)
     have G8 := Lib.hid (G7.out.trans ((show Kp w7 _ from (by first | with_reducible exact Kp.refl _ | with_reducible exact Kp.alloc _ _ | with_reducible exact (Kp.alloc _ _).trans (Kp.alloc _ _) | with_reducible exact ((Kp.alloc _ _).trans (Kp.alloc _ _)).trans (Kp.alloc _ _) | with_reducible exact Kp.drew _ | with_reducible exact Kp.drewN _ _)).trans kk))
     clear kk
     go_wp2_with fail
     refine (C3.out _ _ (K00.out.trans (by first | with_reducible exact K8.out | with_reducible exact K8.out.trans (Kp.alloc _ _) | with_reducible exact (K8.out.trans (Kp.alloc _ _)).trans (Kp.alloc _ _) | with_reducible exact ((K8.out.trans (Kp.alloc _ _)).trans (Kp.alloc _ _)).trans (Kp.alloc _ _) | with_reducible exact K8.out.trans (Kp.drew _) | with_reducible exact K8.out.trans (Kp.drewN _ _))) (BL.out.kp (by first | with_reducible exact G8.out | with_reducible exact G8.out.trans (Kp.alloc _ _) | with_reducible exact (G8.out.trans (Kp.alloc _ _)).trans (Kp.alloc _ _) | with_reducible exact ((G8.out.trans (Kp.alloc _ _)).trans (Kp.alloc _ _)).trans (Kp.alloc _ _) | with_reducible exact G8.out.trans (Kp.drew _) | with_reducible exact G8.out.trans (Kp.drewN _ _)))).mono ?_
     rintro e w9 ⟨rfl, kk⟩
     have K9 := Lib.hid ((show Kp W0 _ from (by first | with_reducible exact K8.out | with_reducible exact K8.out.trans (Kp.alloc _ _) | with_reducible exact (K8.out.trans (Kp.alloc _ _)).trans (Kp.alloc _ _) | with_reducible exact ((K8.out.trans (Kp.alloc _ _)).trans (Kp.alloc _ _)).trans (Kp.alloc _ _) | with_reducible exact K8.out.trans (Kp.drew _) | with_reducible exact K8.out.trans (Kp.drewN _ _))).trans kk)
     have G9 := Lib.hid (G8.out.trans ((show Kp w8 _ from (by first | with_reducible exact Kp.refl _ | with_reducible exact Kp.alloc _ _ | with_reducible exact (Kp.alloc _ _).trans (Kp.alloc _ _) | with_reducible exact ((Kp.alloc _ _).trans (Kp.alloc _ _)).trans (Kp.alloc _ _) | with_reducible exact Kp.drew _ | with_reducible exact Kp.drewN _ _)).trans kk))
     clear kk
     go_wp2
     go_ret
     exact ⟨rfl, K00.out.trans K9.out⟩
    | true =>
     cases h2 : relOk q m with
     | false =>
      have m0 := M0 (by rw [h1, h2]; rfl)
      rw [h1, if_pos rfl] at RE1
      rw [h2] at RE2
      rw [h1, h2] at RE3
      rw [if_neg (by simp)] at RE2 RE3
      subst RE1 RE2 RE3 m0
      clear M0 MA AO h1 h2
      go_enter Tryz.func7, Tryz.ntmps7
      go_wp2_with fail
      refine (CA.out _ (K00.out.trans (by first | with_reducible exact K0.out | with_reducible exact K0.out.trans (Kp.alloc _ _) | with_reducible exact (K0.out.trans (Kp.alloc _ _)).trans (Kp.alloc _ _) | with_reducible exact ((K0.out.trans (Kp.alloc _ _)).trans (Kp.alloc _ _)).trans (Kp.alloc _ _) | with_reducible exact K0.out.trans (Kp.drew _) | with_reducible exact K0.out.trans (Kp.drewN _ _)))).mono ?_
      rintro e w1 ⟨rfl, kk⟩
      have K1 := Lib.hid ((show Kp W0 _ from (by first | with_reducible exact K0.out | with_reducible exact K0.out.trans (Kp.alloc _ _) | with_reducible exact (K0.out.trans (Kp.alloc _ _)).trans (Kp.alloc _ _) | with_reducible exact ((K0.out.trans (Kp.alloc _ _)).trans (Kp.alloc _ _)).trans (Kp.alloc _ _) | with_reducible exact K0.out.trans (Kp.drew _) | with_reducible exact K0.out.trans (Kp.drewN _ _))).trans kk)
      clear kk
      go_wp2_with fail
      refine (CF.out _ (K00.out.trans (by first | with_reducible exact K1.out | with_reducible exact K1.out.trans (Kp.alloc _ _) | with_reducible exact (K1.out.trans (Kp.alloc _ _)).trans (Kp.alloc _ _) | with_reducible exact ((K1.out.trans (Kp.alloc _ _)).trans (Kp.alloc _ _)).trans (Kp.alloc _ _) | with_reducible exact K1.out.trans (Kp.drew _) | with_reducible exact K1.out.trans (Kp.drewN _ _)))).mono ?_
      rintro e w2 ⟨rfl, kk⟩
      have K2 := Lib.hid ((show Kp W0 _ from (by first | with_reducible exact K1.out | with_reducible exact K1.out.trans (Kp.alloc _ _) | with_reducible exact (K1.out.trans (Kp.alloc _ _)).trans (Kp.alloc _ _) | with_reducible exact ((K1.out.trans (Kp.alloc _ _)).trans (Kp.alloc _ _)).trans (Kp.alloc _ _) | with_reducible exact K1.out.trans (Kp.drew _) | with_reducible exact K1.out.trans (Kp.drewN _ _))).trans kk)
      clear kk
      go_wp2_with fail
      refine (CQ.out _ (K00.out.trans (by first | with_reducible exact K2.out | with_reducible exact K2.out.trans (Kp.alloc _ _) | with_reducible exact (K2.out.trans (Kp.alloc _ _)).trans (Kp.alloc _ _) | with_reducible exact ((K2.out.trans (Kp.alloc _ _)).trans (Kp.alloc _ _)).trans (Kp.alloc _ _) | with_reducible exact K2.out.trans (Kp.drew _) | with_reducible exact K2.out.trans (Kp.drewN _ _)))).mono ?_
      rintro e w3 ⟨rfl, kk⟩
      have K3 := Lib.hid ((show Kp W0 _ from (by first | with_reducible exact K2.out | with_reducible exact K2.out.trans (Kp.alloc _ _) | with_reducible exact (K2.out.trans (Kp.alloc _ _)).trans (Kp.alloc _ _) | with_reducible exact ((K2.out.trans (Kp.alloc _ _)).trans (Kp.alloc _ _)).trans (Kp.alloc _ _) | with_reducible exact K2.out.trans (Kp.drew _) | with_reducible exact K2.out.trans (Kp.drewN _ _))).trans kk)
      clear kk
      go_wp2_with fail
      refine (CG.out _ (K00.out.trans (by first | with_reducible exact K3.out | with_reducible exact K3.out.trans (Kp.alloc _ _) | with_reducible exact (K3.out.trans (Kp.alloc _ _)).trans (Kp.alloc _ _) | with_reducible exact ((K3.out.trans (Kp.alloc _ _)).trans (Kp.alloc _ _)).trans (Kp.alloc _ _) | with_reducible exact K3.out.trans (Kp.drew _) | with_reducible exact K3.out.trans (Kp.drewN _ _)))).mono ?_
      rintro e w4 ⟨rfl, kk⟩
      have K4 := Lib.hid ((show Kp W0 _ from (by first | with_reducible exact K3.out | with_reducible exact K3.out.trans (Kp.alloc _ _) | with_reducible exact (K3.out.trans (Kp.alloc _ _)).trans (Kp.alloc _ _) | with_reducible exact ((K3.out.trans (Kp.alloc _ _)).trans (Kp.alloc _ _)).trans (Kp.alloc _ _) | with_reducible exact K3.out.trans (Kp.drew _) | with_reducible exact K3.out.trans (Kp.drewN _ _))).trans kk)
      clear kk
      obtain ⟨i0, hi, hz0, hz1, hz2⟩ := info_parts infoLeaf
      have ke := Kp.alloc w4 (.cells #[] 47)
      have own0 : (w4.alloc (.cells #[] 47)).ownsRow W0.heap.size 47 4 (.slice (some ⟨w4.heap.size, 0, none⟩) 0 0) 0 (cellsV []) :=
       ⟨rfl, .inr ⟨w4.heap.size, 0, #[], rfl, K4.out.size, heap_at _ _ _ rfl, Nat.le_refl _, by decide, rfl, rfl⟩⟩
      have KE := Lib.hid (K4.out.trans ke)
      obtain ⟨ml, hml, rml, sml0⟩ := VL.out.src
      obtain ⟨mm, hmm, rmm, smm0⟩ := VM.out.src
      have sml := sml0 _ (K00.out.trans KE.out)
      have hl2 : (cellsV mm).length = q.length * 4 := by rw [cellsV_length, ← hmm, List.length_map]
      have one2 := cellsV_one rmm
      have H2 := Lib.hid hl2
      have HMM := Lib.hid hmm
      clear hl2 hmm
      have hl1 : (cellsV ml).length = l.length * 4 := by rw [cellsV_length, ← hml, List.length_map]
      have one1 := cellsV_one rml
      have H1 := Lib.hid hl1
      have HML := Lib.hid hml
      clear hl1 hml ke
      have RML := Lib.hid rml
      have RMM := Lib.hid rmm
      have zl : l.length ≤ 12 := nl
      have zm : q.length ≤ 12 := nq
      go_wp2_with (first
       | (at_builtin; refine wpList_app rfl (.tmp 30) (.tmp 31) 22 rfl W0.heap.size 47 i0 (.agg #[.bool false, .int .i64 0, .slice none 0 0, .slice none 0 0]) 4 64 Tryz.underlying22 hi hz0 hz1 hz2 rfl (by decide) _ _ _ rfl own0 _ _ _ rfl sml H1.out one1 (by unfold maxLen; omega) (by omega) KE.out.size ?_; intro v1 w5 own1 hgrow1 hat1; have K5 := Lib.hid (KE.out.grown hgrow1 (fun j hj => (own0.lt j hj).1));
          have smm := smm0 _ (K00.out.trans K5.out); have O1 := Lib.hid own1; clear hgrow1 hat1 own1)
       | (at_builtin; refine wpList_app rfl (.tmp 33) (.tmp 34) 22 rfl W0.heap.size 47 i0 (.agg #[.bool false, .int .i64 0, .slice none 0 0, .slice none 0 0]) 4 64 Tryz.underlying22 hi hz0 hz1 hz2 rfl (by decide) _ _ _ rfl O1.out _ _ _ rfl smm H2.out one2 (by unfold maxLen; omega) (by omega) K5.out.size ?_; intro v2 w6 own2 hgrow2 hat2; have K6 := Lib.hid (K5.out.grown hgrow2 (fun j hj => (O1.out.lt j hj).1)); have O2 := Lib.hid own2; clear hgrow2 hat2 own2))
      have OB := O2.out
      have BV : LeavesAt w6 v2 (l ++ q) := by
       have q : w6.ownsRow W0.heap.size 47 4 v2 (ml ++ mm).length (cellsV (ml ++ mm)) := by
        rw [cellsV_append, List.length_append, show ml.length = l.length by rw [← HML.out, List.length_map], show mm.length = q.length by rw [← HMM.out, List.length_map]]
        have := OB
        rw [Nat.zero_add] at this
        exact this
       have := leavesAt_own q ((RML.out.kp (K00.out.trans K6.out)).append (RMM.out.kp (K00.out.trans K6.out)))
       rwa [List.map_append, HML.out, HMM.out] at this
      have BL := Lib.hid BV
      clear OB BV one1 one2 sml sml0 smm0 rml rmm own0
      have G6 := Lib.hid (Kp.refl w6)
      refine (C1.out _ (K00.out.trans (by first | with_reducible exact K6.out | with_reducible exact K6.out.trans (Kp.alloc _ _) | with_reducible exact (K6.out.trans (Kp.alloc _ _)).trans (Kp.alloc _ _) | with_reducible exact ((K6.out.trans (Kp.alloc _ _)).trans (Kp.alloc _ _)).trans (Kp.alloc _ _) | with_reducible exact K6.out.trans (Kp.drew _) | with_reducible exact K6.out.trans (Kp.drewN _ _)))).mono ?_
      rintro e w7 ⟨rfl, kk⟩
      have K7 := Lib.hid ((show Kp W0 _ from (by first | with_reducible exact K6.out | with_reducible exact K6.out.trans (Kp.alloc _ _) | with_reducible exact (K6.out.trans (Kp.alloc _ _)).trans (Kp.alloc _ _) | with_reducible exact ((K6.out.trans (Kp.alloc _ _)).trans (Kp.alloc _ _)).trans (Kp.alloc _ _) | with_reducible exact K6.out.trans (Kp.drew _) | with_reducible exact K6.out.trans (Kp.drewN _ _))).trans kk)
      have G7 := Lib.hid (G6.out.trans ((show Kp w6 _ from (by first | with_reducible exact Kp.refl _ | with_reducible exact Kp.alloc _ _ | with_reducible exact (Kp.alloc _ _).trans (Kp.alloc _ _) | with_reducible exact ((Kp.alloc _ _).trans (Kp.alloc _ _)).trans (Kp.alloc _ _) | with_reducible exact Kp.drew _ | with_reducible exact Kp.drewN _ _)).trans kk))
      clear kk
      go_wp2_with fail
      refine (C2.out _ (K00.out.trans (by first | with_reducible exact K7.out | with_reducible exact K7.out.trans (Kp.alloc _ _) | with_reducible exact (K7.out.trans (Kp.alloc _ _)).trans (Kp.alloc _ _) | with_reducible exact ((K7.out.trans (Kp.alloc _ _)).trans (Kp.alloc _ _)).trans (Kp.alloc _ _) | with_reducible exact K7.out.trans (Kp.drew _) | with_reducible exact K7.out.trans (Kp.drewN _ _)))).mono ?_
      rintro e w8 ⟨rfl, kk⟩
      have K8 := Lib.hid ((show Kp W0 _ from (by first | with_reducible exact K7.out | with_reducible exact K7.out.trans (Kp.alloc _ _) | with_reducible exact (K7.out.trans (Kp.alloc _ _)).trans (Kp.alloc _ _) | with_reducible exact ((K7.out.trans (Kp.alloc _ _)).trans (Kp.alloc _ _)).trans (Kp.alloc _ _) | with_reducible exact K7.out.trans (Kp.drew _) | with_reducible exact K7.out.trans (Kp.drewN _ _))).trans kk)
      have G8 := Lib.hid (G7.out.trans ((show Kp w7 _ from (by first | with_reducible exact Kp.refl _ | with_reducible exact Kp.alloc _ _ | with_reducible exact (Kp.alloc _ _).trans (Kp.alloc _ _) | with_reducible exact ((Kp.alloc _ _).trans (Kp.alloc _ _)).trans (Kp.alloc _ _) | with_reducible exact Kp.drew _ | with_reducible exact Kp.drewN _ _)).trans kk))
      clear kk
      go_wp2_with fail
      refine (C3.out _ _ (K00.out.trans (by first | with_reducible exact K8.out | with_reducible exact K8.out.trans (Kp.alloc _ _) | with_reducible exact (K8.out.trans (Kp.alloc _ _)).trans (Kp.alloc _ _) | with_reducible exact ((K8.out.trans (Kp.alloc _ _)).trans (Kp.alloc _ _)).trans (Kp.alloc _ _) | with_reducible exact K8.out.trans (Kp.drew _) | with_reducible exact K8.out.trans (Kp.drewN _ _))) (BL.out.kp (by first | with_reducible exact G8.out | with_reducible exact G8.out.trans (Kp.alloc _ _) | with_reducible exact (G8.out.trans (Kp.alloc _ _)).trans (Kp.alloc _ _) | with_reducible exact ((G8.out.trans (Kp.alloc _ _)).trans (Kp.alloc _ _)).trans (Kp.alloc _ _) | with_reducible exact G8.out.trans (Kp.drew _) | with_reducible exact G8.out.trans (Kp.drewN _ _)))).mono ?_
      rintro e w9 ⟨rfl, kk⟩
      have K9 := Lib.hid ((show Kp W0 _ from (by first | with_reducible exact K8.out | with_reducible exact K8.out.trans (Kp.alloc _ _) | with_reducible exact (K8.out.trans (Kp.alloc _ _)).trans (Kp.alloc _ _) | with_reducible exact ((K8.out.trans (Kp.alloc _ _)).trans (Kp.alloc _ _)).trans (Kp.alloc _ _) | with_reducible exact K8.out.trans (Kp.drew _) | with_reducible exact K8.out.trans (Kp.drewN _ _))).trans kk)
      have G9 := Lib.hid (G8.out.trans ((show Kp w8 _ from (by first | with_reducible exact Kp.refl _ | with_reducible exact Kp.alloc _ _ | with_reducible exact (Kp.alloc _ _).trans (Kp.alloc _ _) | with_reducible exact ((Kp.alloc _ _).trans (Kp.alloc _ _)).trans (Kp.alloc _ _) | with_reducible exact Kp.drew _ | with_reducible exact Kp.drewN _ _)).trans kk))
      clear kk
      go_wp2
      go_ret
      exact ⟨rfl, K00.out.trans K9.out⟩
     | true =>
      have m3 := MA h1 h2
      rw [h1, if_pos rfl] at RE1
      rw [h2, if_pos rfl] at RE2
      rw [h1, h2] at RE3
      rw [if_pos (by simp)] at RE3
      subst RE1 RE2 RE3
      rw [← m3] at AO
      clear M0 MA h1 h2 m3
      go_enter Tryz.func7, Tryz.ntmps7
      go_wp2_with fail
      refine (CA.out _ (K00.out.trans (by first | with_reducible exact K0.out | with_reducible exact K0.out.trans (Kp.alloc _ _) | with_reducible exact (K0.out.trans (Kp.alloc _ _)).trans (Kp.alloc _ _) | with_reducible exact ((K0.out.trans (Kp.alloc _ _)).trans (Kp.alloc _ _)).trans (Kp.alloc _ _) | with_reducible exact K0.out.trans (Kp.drew _) | with_reducible exact K0.out.trans (Kp.drewN _ _)))).mono ?_
      rintro e w1 ⟨rfl, kk⟩
      have K1 := Lib.hid ((show Kp W0 _ from (by first | with_reducible exact K0.out | with_reducible exact K0.out.trans (Kp.alloc _ _) | with_reducible exact (K0.out.trans (Kp.alloc _ _)).trans (Kp.alloc _ _) | with_reducible exact ((K0.out.trans (Kp.alloc _ _)).trans (Kp.alloc _ _)).trans (Kp.alloc _ _) | with_reducible exact K0.out.trans (Kp.drew _) | with_reducible exact K0.out.trans (Kp.drewN _ _))).trans kk)
      clear kk
      go_wp2_with fail
      refine (CF.out _ (K00.out.trans (by first | with_reducible exact K1.out | with_reducible exact K1.out.trans (Kp.alloc _ _) | with_reducible exact (K1.out.trans (Kp.alloc _ _)).trans (Kp.alloc _ _) | with_reducible exact ((K1.out.trans (Kp.alloc _ _)).trans (Kp.alloc _ _)).trans (Kp.alloc _ _) | with_reducible exact K1.out.trans (Kp.drew _) | with_reducible exact K1.out.trans (Kp.drewN _ _)))).mono ?_
      rintro e w2 ⟨rfl, kk⟩
      have K2 := Lib.hid ((show Kp W0 _ from (by first | with_reducible exact K1.out | with_reducible exact K1.out.trans (Kp.alloc _ _) | with_reducible exact (K1.out.trans (Kp.alloc _ _)).trans (Kp.alloc _ _) | with_reducible exact ((K1.out.trans (Kp.alloc _ _)).trans (Kp.alloc _ _)).trans (Kp.alloc _ _) | with_reducible exact K1.out.trans (Kp.drew _) | with_reducible exact K1.out.trans (Kp.drewN _ _))).trans kk)
      clear kk
      go_wp2_with fail
      refine (CQ.out _ (K00.out.trans (by first | with_reducible exact K2.out | with_reducible exact K2.out.trans (Kp.alloc _ _) | with_reducible exact (K2.out.trans (Kp.alloc _ _)).trans (Kp.alloc _ _) | with_reducible exact ((K2.out.trans (Kp.alloc _ _)).trans (Kp.alloc _ _)).trans (Kp.alloc _ _) | with_reducible exact K2.out.trans (Kp.drew _) | with_reducible exact K2.out.trans (Kp.drewN _ _)))).mono ?_
      rintro e w3 ⟨rfl, kk⟩
      have K3 := Lib.hid ((show Kp W0 _ from (by first | with_reducible exact K2.out | with_reducible exact K2.out.trans (Kp.alloc _ _) | with_reducible exact (K2.out.trans (Kp.alloc _ _)).trans (Kp.alloc _ _) | with_reducible exact ((K2.out.trans (Kp.alloc _ _)).trans (Kp.alloc _ _)).trans (Kp.alloc _ _) | with_reducible exact K2.out.trans (Kp.drew _) | with_reducible exact K2.out.trans (Kp.drewN _ _))).trans kk)
      clear kk
      go_wp2_with fail
      refine (CG.out _ (K00.out.trans (by first | with_reducible exact K3.out | with_reducible exact K3.out.trans (Kp.alloc _ _) | with_reducible exact (K3.out.trans (Kp.alloc _ _)).trans (Kp.alloc _ _) | with_reducible exact ((K3.out.trans (Kp.alloc _ _)).trans (Kp.alloc _ _)).trans (Kp.alloc _ _) | with_reducible exact K3.out.trans (Kp.drew _) | with_reducible exact K3.out.trans (Kp.drewN _ _)))).mono ?_
      rintro e w4 ⟨rfl, kk⟩
      have K4 := Lib.hid ((show Kp W0 _ from (by first | with_reducible exact K3.out | with_reducible exact K3.out.trans (Kp.alloc _ _) | with_reducible exact (K3.out.trans (Kp.alloc _ _)).trans (Kp.alloc _ _) | with_reducible exact ((K3.out.trans (Kp.alloc _ _)).trans (Kp.alloc _ _)).trans (Kp.alloc _ _) | with_reducible exact K3.out.trans (Kp.drew _) | with_reducible exact K3.out.trans (Kp.drewN _ _))).trans kk)
      clear kk
      obtain ⟨i0, hi, hz0, hz1, hz2⟩ := info_parts infoLeaf
      have ke := Kp.alloc w4 (.cells #[] 47)
      have own0 : (w4.alloc (.cells #[] 47)).ownsRow W0.heap.size 47 4 (.slice (some ⟨w4.heap.size, 0, none⟩) 0 0) 0 (cellsV []) :=
       ⟨rfl, .inr ⟨w4.heap.size, 0, #[], rfl, K4.out.size, heap_at _ _ _ rfl, Nat.le_refl _, by decide, rfl, rfl⟩⟩
      have KE := Lib.hid (K4.out.trans ke)
      obtain ⟨ml, hml, rml, sml0⟩ := VL.out.src
      obtain ⟨mm, hmm, rmm, smm0⟩ := VM.out.src
      have sml := sml0 _ (K00.out.trans KE.out)
      have hl2 : (cellsV mm).length = q.length * 4 := by rw [cellsV_length, ← hmm, List.length_map]
      have one2 := cellsV_one rmm
      have H2 := Lib.hid hl2
      have HMM := Lib.hid hmm
      clear hl2 hmm
      have hl1 : (cellsV ml).length = l.length * 4 := by rw [cellsV_length, ← hml, List.length_map]
      have one1 := cellsV_one rml
      have H1 := Lib.hid hl1
      have HML := Lib.hid hml
      clear hl1 hml ke
      have RML := Lib.hid rml
      have RMM := Lib.hid rmm
      have zl : l.length ≤ 12 := nl
      have zm : q.length ≤ 12 := nq
      go_wp2_with (first
       | (at_builtin; refine wpList_app rfl (.tmp 30) (.tmp 31) 22 rfl W0.heap.size 47 i0 (.agg #[.bool false, .int .i64 0, .slice none 0 0, .slice none 0 0]) 4 64 Tryz.underlying22 hi hz0 hz1 hz2 rfl (by decide) _ _ _ rfl own0 _ _ _ rfl sml H1.out one1 (by unfold maxLen; omega) (by omega) KE.out.size ?_; intro v1 w5 own1 hgrow1 hat1; have K5 := Lib.hid (KE.out.grown hgrow1 (fun j hj => (own0.lt j hj).1));
          have smm := smm0 _ (K00.out.trans K5.out); have O1 := Lib.hid own1; clear hgrow1 hat1 own1)
       | (at_builtin; refine wpList_app rfl (.tmp 33) (.tmp 34) 22 rfl W0.heap.size 47 i0 (.agg #[.bool false, .int .i64 0, .slice none 0 0, .slice none 0 0]) 4 64 Tryz.underlying22 hi hz0 hz1 hz2 rfl (by decide) _ _ _ rfl O1.out _ _ _ rfl smm H2.out one2 (by unfold maxLen; omega) (by omega) K5.out.size ?_; intro v2 w6 own2 hgrow2 hat2; have K6 := Lib.hid (K5.out.grown hgrow2 (fun j hj => (O1.out.lt j hj).1)); have O2 := Lib.hid own2; clear hgrow2 hat2 own2))
      have OB := O2.out
      have BV : LeavesAt w6 v2 (l ++ q) := by
       have q : w6.ownsRow W0.heap.size 47 4 v2 (ml ++ mm).length (cellsV (ml ++ mm)) := by
        rw [cellsV_append, List.length_append, show ml.length = l.length by rw [← HML.out, List.length_map], show mm.length = q.length by rw [← HMM.out, List.length_map]]
        have := OB
        rw [Nat.zero_add] at this
        exact this
       have := leavesAt_own q ((RML.out.kp (K00.out.trans K6.out)).append (RMM.out.kp (K00.out.trans K6.out)))
       rwa [List.map_append, HML.out, HMM.out] at this
      have BL := Lib.hid BV
      clear OB BV one1 one2 sml sml0 smm0 rml rmm own0
      have G6 := Lib.hid (Kp.refl w6)
      refine (C1.out _ (K00.out.trans (by first | with_reducible exact K6.out | with_reducible exact K6.out.trans (Kp.alloc _ _) | with_reducible exact (K6.out.trans (Kp.alloc _ _)).trans (Kp.alloc _ _) | with_reducible exact ((K6.out.trans (Kp.alloc _ _)).trans (Kp.alloc _ _)).trans (Kp.alloc _ _) | with_reducible exact K6.out.trans (Kp.drew _) | with_reducible exact K6.out.trans (Kp.drewN _ _)))).mono ?_
      rintro e w7 ⟨rfl, kk⟩
      have K7 := Lib.hid ((show Kp W0 _ from (by first | with_reducible exact K6.out | with_reducible exact K6.out.trans (Kp.alloc _ _) | with_reducible exact (K6.out.trans (Kp.alloc _ _)).trans (Kp.alloc _ _) | with_reducible exact ((K6.out.trans (Kp.alloc _ _)).trans (Kp.alloc _ _)).trans (Kp.alloc _ _) | with_reducible exact K6.out.trans (Kp.drew _) | with_reducible exact K6.out.trans (Kp.drewN _ _))).trans kk)
      have G7 := Lib.hid (G6.out.trans ((show Kp w6 _ from (by first | with_reducible exact Kp.refl _ | with_reducible exact Kp.alloc _ _ | with_reducible exact (Kp.alloc _ _).trans (Kp.alloc _ _) | with_reducible exact ((Kp.alloc _ _).trans (Kp.alloc _ _)).trans (Kp.alloc _ _) | with_reducible exact Kp.drew _ | with_reducible exact Kp.drewN _ _)).trans kk))
      clear kk
      go_wp2_with fail
      refine (C2.out _ (K00.out.trans (by first | with_reducible exact K7.out | with_reducible exact K7.out.trans (Kp.alloc _ _) | with_reducible exact (K7.out.trans (Kp.alloc _ _)).trans (Kp.alloc _ _) | with_reducible exact ((K7.out.trans (Kp.alloc _ _)).trans (Kp.alloc _ _)).trans (Kp.alloc _ _) | with_reducible exact K7.out.trans (Kp.drew _) | with_reducible exact K7.out.trans (Kp.drewN _ _)))).mono ?_
      rintro e w8 ⟨rfl, kk⟩
      have K8 := Lib.hid ((show Kp W0 _ from (by first | with_reducible exact K7.out | with_reducible exact K7.out.trans (Kp.alloc _ _) | with_reducible exact (K7.out.trans (Kp.alloc _ _)).trans (Kp.alloc _ _) | with_reducible exact ((K7.out.trans (Kp.alloc _ _)).trans (Kp.alloc _ _)).trans (Kp.alloc _ _) | with_reducible exact K7.out.trans (Kp.drew _) | with_reducible exact K7.out.trans (Kp.drewN _ _))).trans kk)
      have G8 := Lib.hid (G7.out.trans ((show Kp w7 _ from (by first | with_reducible exact Kp.refl _ | with_reducible exact Kp.alloc _ _ | with_reducible exact (Kp.alloc _ _).trans (Kp.alloc _ _) | with_reducible exact ((Kp.alloc _ _).trans (Kp.alloc _ _)).trans (Kp.alloc _ _) | with_reducible exact Kp.drew _ | with_reducible exact Kp.drewN _ _)).trans kk))
      clear kk
      go_wp2_with fail
      refine (C3.out _ _ (K00.out.trans (by first | with_reducible exact K8.out | with_reducible exact K8.out.trans (Kp.alloc _ _) | with_reducible exact (K8.out.trans (Kp.alloc _ _)).trans (Kp.alloc _ _) | with_reducible exact ((K8.out.trans (Kp.alloc _ _)).trans (Kp.alloc _ _)).trans (Kp.alloc _ _) | with_reducible exact K8.out.trans (Kp.drew _) | with_reducible exact K8.out.trans (Kp.drewN _ _))) (BL.out.kp (by first | with_reducible exact G8.out | with_reducible exact G8.out.trans (Kp.alloc _ _) | with_reducible exact (G8.out.trans (Kp.alloc _ _)).trans (Kp.alloc _ _) | with_reducible exact ((G8.out.trans (Kp.alloc _ _)).trans (Kp.alloc _ _)).trans (Kp.alloc _ _) | with_reducible exact G8.out.trans (Kp.drew _) | with_reducible exact G8.out.trans (Kp.drewN _ _)))).mono ?_
      rintro e w9 ⟨rfl, kk⟩
      have K9 := Lib.hid ((show Kp W0 _ from (by first | with_reducible exact K8.out | with_reducible exact K8.out.trans (Kp.alloc _ _) | with_reducible exact (K8.out.trans (Kp.alloc _ _)).trans (Kp.alloc _ _) | with_reducible exact ((K8.out.trans (Kp.alloc _ _)).trans (Kp.alloc _ _)).trans (Kp.alloc _ _) | with_reducible exact K8.out.trans (Kp.drew _) | with_reducible exact K8.out.trans (Kp.drewN _ _))).trans kk)
      have G9 := Lib.hid (G8.out.trans ((show Kp w8 _ from (by first | with_reducible exact Kp.refl _ | with_reducible exact Kp.alloc _ _ | with_reducible exact (Kp.alloc _ _).trans (Kp.alloc _ _) | with_reducible exact ((Kp.alloc _ _).trans (Kp.alloc _ _)).trans (Kp.alloc _ _) | with_reducible exact Kp.drew _ | with_reducible exact Kp.drewN _ _)).trans kk))
      clear kk
      go_wp2
      go_ret
      exact ⟨rfl, K00.out.trans K9.out⟩
end Go.Proofs.YtamdjbpgkiekcaaGreatDoor
