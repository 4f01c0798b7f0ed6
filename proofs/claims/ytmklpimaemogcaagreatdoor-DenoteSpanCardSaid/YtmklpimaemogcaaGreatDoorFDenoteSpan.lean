/-
  Joined: L15D, LDenoteSpan.
-/
import Derived.Test.YtmklpimaemogcaaGreatDoorGDn
import Derived.Test.YtmklpimaemogcaaGreatDoorGSetC
import Derived.Test.YtmklpimaemogcaaGreatDoorCards
import Derived.Test.YtmklpimaemogcaaGreatDoorTie
import Derived.WalkKit
import Derived.ProofKit
import Derived.OpenShut
import Derived.ShutString
import Derived.ChangeOld
import Derived.Below
import Derived.Test.YtmklpimaemogcaaGreatDoorGTr
import Derived.Deep.DeepHandedRow
import Derived.Lib.LaidTab
import Derived.Lib.SmallJoins
import Derived.Carry
namespace Go.Proofs.YtmklpimaemogcaaGreatDoor
open Go.RowKit
set_option linter.unusedVariables false
set_option linter.unusedSimpArgs false
theorem hasB_one {a b : Int} (h0 : 0 ≤ a) (h1 : a ≤ b) (h2 : b ≤ 3652424) (n : Int) : hasB [(a, b)] n = (decide (a ≤ n) && decide (n ≤ b)) := by
  have s := setB_sane (one_ok h0 h1 h2)
  rw [Bool.eq_iff_iff, has_mem s, memR_one, Bool.and_eq_true, decide_eq_true_eq, decide_eq_true_eq]
  omega
theorem hasB_same {a : Int} (h0 : 0 ≤ a) (h2 : a ≤ 3652424) (n : Int) : hasB [(a, a)] n = (n == a) := by
  rw [hasB_one h0 (Int.le_refl a) h2, Bool.eq_iff_iff, Bool.and_eq_true, decide_eq_true_eq, decide_eq_true_eq, beq_iff_eq]
  omega
theorem span_has {sa sb : List R} (ha : setB 0 sa = true) (hb : setB 0 sb = true) (S E : Int) : hasL [⟨true, 0, sa, sb⟩] S E = (decide (S ≤ E) && (hasB sa S && hasB sb E)) := by
  unfold hasL
  rw [List.any_cons, List.any_nil, Bool.or_false, Bool.eq_iff_iff, hasF_sp (f := ⟨true, 0, sa, sb⟩) (by unfold leafB; rw [if_pos rfl, ha, hb]; rfl) rfl, Bool.and_eq_true, Bool.and_eq_true, decide_eq_true_eq, has_mem (setB_sane ha), has_mem (setB_sane hb)]
theorem ok_span {sa sb : List R} (ha : setB 0 sa = true ∧ sa.length ≤ 400) (hb : setB 0 sb = true ∧ sb.length ≤ 400) : LsOk [⟨true, 0, sa, sb⟩] := by
  intro f hf
  rw [List.mem_singleton.1 hf]
  exact And.intro (sane_i64 (setB_sane ha.1)) (And.intro (sane_i64 (setB_sane hb.1)) (And.intro (by have := ha.2; simp only; omega) (by have := hb.2; simp only; omega)))
set_option maxHeartbeats 16000000 in
set_option maxRecDepth 100000 in
theorem stands_f (n : ND) (v : Value) (day : Int) (w : World) (hv : ∃ ad c, v = .slice ad n.l.length c) (h1 : -9223372036854775808 ≤ day) (h2 : day ≤ 9223372036854775807) (he : endN saneP n = true) (h : siE n = 0) (T : Tabs8 w) :
    Calls Tryz.prog 22 #[ndV n v, .int .i64 day, .bool false] w fun e w' => e = .returned (.bool (hasB (staS n) day)) ∧ Kp w w' := by
  obtain ⟨ad, cp, rfl⟩ := hv
  rcases dk_end he with ⟨p, a, t, rfl, hp⟩ | rfl | rfl
  · obtain ⟨pk, y, m, q⟩ := p
    rw [siE_k (k := 0) _ _ _ _ (by decide) (by decide)] at h
    have uo := un_ok h
    unfold staS
    rw [siR_k (k := 0) _ _ _ _ _ _ (by decide) (by decide)]
    unfold ndV
    simp only [ND.k, ND.p, ND.a, ND.t, ND.l] at *
    obtain ⟨l, hl⟩ : ∃ l : List ND, l = [] := ⟨_, rfl⟩
    rw [← hl] at h uo ⊢
    clear hl he
    cases t with
    | false =>
      rw [unE_f] at h
      rw [unS_f] at uo ⊢
      have PS := Lib.hid (fun w1 (kk : Kp w w1) => (show Calls Tryz.prog 17 #[.agg #[.int .i64 pk, .string y, .string m, .string q]] w1 _ from pset_any ⟨pk, y, m, q⟩ w1 (T.kp kk)))
      rw [h] at PS
      have ed := uo.edg
      have i6 := sane_i64 uo.sane
      have l4 := uo.len
      generalize setS ⟨pk, y, m, q⟩ = U at *
      have CI := Lib.hid (fun v w1 (hr : RunsAt w1 v U) (qq : Kp w w1) => by
        have c := starts_any pk v U w1 hr i6 (by omega) (T.kp qq).1
        rw [ed] at c
        exact c)
      have e6 := sane_i64 (edgR_sane (V := firV pk) (k := pk) (s := U))
      have e4 := dk_elen (V := firV pk) (k := pk) (s := U)
      have en := nf_of_sane (edgR_sane (V := firV pk) (k := pk) (s := U))
      generalize edgR (firV pk) pk U = D at *
      have CH := Lib.hid (fun ad c w1 (hr : RunsAt w1 (.slice ad D.length c) D) => by
        have c := has_any ad c D day w1 hr e6 (by omega) h1 h2
        rw [en] at c
        exact c)
      clear T ed i6 l4 uo h e6 e4 en hp
      obtain ⟨W0, hW⟩ : ∃ x, x = w.alloc (.cells #[.int .i64 0, .int .i64 pk, .string y, .string m, .string q, .bool a, .bool false, .slice ad l.length cp] 26) := ⟨_, rfl⟩
      have k0 : Kp w W0 := by rw [hW]; exact Kp.alloc _ _
      have hg : W0.heap[w.heap.size]? = some (.cells #[.int .i64 0, .int .i64 pk, .string y, .string m, .string q, .bool a, .bool false, .slice ad l.length cp] 26 (0, 0)) := by rw [hW]; exact heap_at _ _ _ rfl
      have HB := Lib.hid (fun w1 (qq : Kp W0 w1) => row8 (heap_block qq hg))
      have HW := Lib.hid hW
      have K00 := Lib.hid k0
      have K0 := Lib.hid (Kp.refl W0)
      clear hW k0 hg
      go_enter Tryz.func22, Tryz.ntmps22
      go_wp2_with fail
      rw [← HW.out]
      obtain ⟨c0, c1, c2, c3, c4, c5, c6, c7⟩ := HB.out W0 (Kp.refl _)
      go_wp2_with fail
      refine (PS.out _ K00.out).mono ?_
      rintro e w1 ⟨v1, rfl, own1, kk⟩
      have K1 := Lib.hid (K0.out.trans kk)
      have RU := Lib.hid (runsAt_own own1)
      obtain ⟨a1, b1, rfl⟩ := own_slice own1
      clear own1
      clear kk
      clear c0 c1 c2 c3 c4 c5 c6 c7
      obtain ⟨c0, c1, c2, c3, c4, c5, c6, c7⟩ := HB.out w1 K1.out
      go_wp2_with fail
      refine (CI.out _ _ RU.out (K00.out.trans K1.out)).mono ?_
      rintro e w2 ⟨v5, rfl, own5, kk⟩
      have K2 := Lib.hid (K1.out.trans kk)
      have RD := Lib.hid (runsAt_own own5)
      obtain ⟨a5, b5, rfl⟩ := own_slice own5
      clear own5
      clear kk
      clear c0 c1 c2 c3 c4 c5 c6 c7
      obtain ⟨c0, c1, c2, c3, c4, c5, c6, c7⟩ := HB.out w2 K2.out
      go_wp2_with fail
      refine (CH.out _ _ _ RD.out).mono ?_
      rintro e w3 ⟨rfl, kk⟩
      have K3 := Lib.hid (K2.out.trans kk)
      clear kk
      clear c0 c1 c2 c3 c4 c5 c6 c7
      obtain ⟨c0, c1, c2, c3, c4, c5, c6, c7⟩ := HB.out w3 K3.out
      go_wp2
      go_ret
      exact ⟨rfl, K00.out.trans K3.out⟩
    | true =>
      rw [unE_t] at h
      rw [unS_t] at uo ⊢
      have PS := Lib.hid (fun w1 (kk : Kp w w1) => (show Calls Tryz.prog 17 #[.agg #[.int .i64 pk, .string y, .string m, .string q]] w1 _ from pset_any ⟨pk, y, m, q⟩ w1 (T.kp kk)))
      have PN := Lib.hid (fun w1 (kk : Kp w w1) => (show Calls Tryz.prog 18 #[.agg #[.int .i64 pk, .string y, .string m, .string q]] w1 _ from pnear_any ⟨pk, y, m, q⟩ w1 (T.kp kk)))
      rw [h] at PN
      have ed := uo.edg
      have i6 := sane_i64 uo.sane
      have l4 := uo.len
      generalize nearS ⟨pk, y, m, q⟩ = U at *
      have CI := Lib.hid (fun v w1 (hr : RunsAt w1 v U) (qq : Kp w w1) => by
        have c := starts_any pk v U w1 hr i6 (by omega) (T.kp qq).1
        rw [ed] at c
        exact c)
      have e6 := sane_i64 (edgR_sane (V := firV pk) (k := pk) (s := U))
      have e4 := dk_elen (V := firV pk) (k := pk) (s := U)
      have en := nf_of_sane (edgR_sane (V := firV pk) (k := pk) (s := U))
      generalize edgR (firV pk) pk U = D at *
      have CH := Lib.hid (fun ad c w1 (hr : RunsAt w1 (.slice ad D.length c) D) => by
        have c := has_any ad c D day w1 hr e6 (by omega) h1 h2
        rw [en] at c
        exact c)
      clear T ed i6 l4 uo h e6 e4 en hp
      obtain ⟨W0, hW⟩ : ∃ x, x = w.alloc (.cells #[.int .i64 0, .int .i64 pk, .string y, .string m, .string q, .bool a, .bool true, .slice ad l.length cp] 26) := ⟨_, rfl⟩
      have k0 : Kp w W0 := by rw [hW]; exact Kp.alloc _ _
      have hg : W0.heap[w.heap.size]? = some (.cells #[.int .i64 0, .int .i64 pk, .string y, .string m, .string q, .bool a, .bool true, .slice ad l.length cp] 26 (0, 0)) := by rw [hW]; exact heap_at _ _ _ rfl
      have HB := Lib.hid (fun w1 (qq : Kp W0 w1) => row8 (heap_block qq hg))
      have HW := Lib.hid hW
      have K00 := Lib.hid k0
      have K0 := Lib.hid (Kp.refl W0)
      clear hW k0 hg
      go_enter Tryz.func22, Tryz.ntmps22
      go_wp2_with fail
      rw [← HW.out]
      obtain ⟨c0, c1, c2, c3, c4, c5, c6, c7⟩ := HB.out W0 (Kp.refl _)
      go_wp2_with fail
      refine (PS.out _ K00.out).mono ?_
      rintro e w1 ⟨v1, rfl, own1, kk⟩
      have K1 := Lib.hid (K0.out.trans kk)
      obtain ⟨a1, b1, rfl⟩ := own_slice own1
      clear own1
      clear kk
      clear c0 c1 c2 c3 c4 c5 c6 c7
      obtain ⟨c0, c1, c2, c3, c4, c5, c6, c7⟩ := HB.out w1 K1.out
      go_wp2_with fail
      refine (PN.out _ (K00.out.trans K1.out)).mono ?_
      rintro e w2 ⟨v2, rfl, own2, kk⟩
      have K2 := Lib.hid (K1.out.trans kk)
      have RU := Lib.hid (runsAt_own own2)
      obtain ⟨a2, b2, rfl⟩ := own_slice own2
      clear own2
      clear kk
      clear c0 c1 c2 c3 c4 c5 c6 c7
      obtain ⟨c0, c1, c2, c3, c4, c5, c6, c7⟩ := HB.out w2 K2.out
      go_wp2_with fail
      refine (CI.out _ _ RU.out (K00.out.trans K2.out)).mono ?_
      rintro e w3 ⟨v5, rfl, own5, kk⟩
      have K3 := Lib.hid (K2.out.trans kk)
      have RD := Lib.hid (runsAt_own own5)
      obtain ⟨a5, b5, rfl⟩ := own_slice own5
      clear own5
      clear kk
      clear c0 c1 c2 c3 c4 c5 c6 c7
      obtain ⟨c0, c1, c2, c3, c4, c5, c6, c7⟩ := HB.out w3 K3.out
      go_wp2_with fail
      refine (CH.out _ _ _ RD.out).mono ?_
      rintro e w4 ⟨rfl, kk⟩
      have K4 := Lib.hid (K3.out.trans kk)
      clear kk
      clear c0 c1 c2 c3 c4 c5 c6 c7
      obtain ⟨c0, c1, c2, c3, c4, c5, c6, c7⟩ := HB.out w4 K4.out
      go_wp2
      go_ret
      exact ⟨rfl, K00.out.trans K4.out⟩
  · unfold staS
    rw [siR_3, hasB_same (by omega) (by omega)]
    unfold ndV
    simp only [ND.k, ND.p, ND.a, ND.t, ND.l, List.length_nil]
    clear he h T
    go_enter Tryz.func22, Tryz.ntmps22
    go_wp2
    go_ret
    exact ⟨rfl, Kp.alloc _ _⟩
  · unfold staS
    rw [siR_4, hasB_one (by omega) (by omega) (by omega)]
    unfold ndV
    simp only [ND.k, ND.p, ND.a, ND.t, ND.l, List.length_nil]
    clear he h T
    by_cases g0 : 0 ≤ day
    · have q0 : decide ((0 : Int) ≤ day) = true := decide_eq_true g0
      have q1 : decide (day ≥ (0 : Int)) = true := decide_eq_true g0
      rw [q0]
      rw [Bool.true_and]
      go_enter Tryz.func22, Tryz.ntmps22
      go_wp2
      go_ret
      exact ⟨rfl, Kp.alloc _ _⟩
    · have q0 : decide ((0 : Int) ≤ day) = false := decide_eq_false g0
      have q1 : decide (day ≥ (0 : Int)) = false := decide_eq_false g0
      rw [q0]
      rw [Bool.false_and]
      go_enter Tryz.func22, Tryz.ntmps22
      go_wp2
      go_ret
      exact ⟨rfl, Kp.alloc _ _⟩
set_option maxHeartbeats 16000000 in
set_option maxRecDepth 100000 in
theorem stands_t (n : ND) (v : Value) (day : Int) (w : World) (hv : ∃ ad c, v = .slice ad n.l.length c) (h1 : -9223372036854775808 ≤ day) (h2 : day ≤ 9223372036854775807) (he : endN saneP n = true) (h : siE n = 0) (T : Tabs8 w) :
    Calls Tryz.prog 22 #[ndV n v, .int .i64 day, .bool true] w fun e w' => e = .returned (.bool (hasB (endS n) day)) ∧ Kp w w' := by
  obtain ⟨ad, cp, rfl⟩ := hv
  rcases dk_end he with ⟨p, a, t, rfl, hp⟩ | rfl | rfl
  · obtain ⟨pk, y, m, q⟩ := p
    rw [siE_k (k := 0) _ _ _ _ (by decide) (by decide)] at h
    have uo := un_ok h
    unfold endS
    rw [siR_k (k := 0) _ _ _ _ _ _ (by decide) (by decide)]
    unfold ndV
    simp only [ND.k, ND.p, ND.a, ND.t, ND.l] at *
    obtain ⟨l, hl⟩ : ∃ l : List ND, l = [] := ⟨_, rfl⟩
    rw [← hl] at h uo ⊢
    clear hl he
    cases t with
    | false =>
      rw [unE_f] at h
      rw [unS_f] at uo ⊢
      have PS := Lib.hid (fun w1 (kk : Kp w w1) => (show Calls Tryz.prog 17 #[.agg #[.int .i64 pk, .string y, .string m, .string q]] w1 _ from pset_any ⟨pk, y, m, q⟩ w1 (T.kp kk)))
      rw [h] at PS
      have ed := uo.edg
      have i6 := sane_i64 uo.sane
      have l4 := uo.len
      generalize setS ⟨pk, y, m, q⟩ = U at *
      have CI := Lib.hid (fun v w1 (hr : RunsAt w1 v U) (qq : Kp w w1) => by
        have c := starts_any pk v U w1 hr i6 (by omega) (T.kp qq).1
        rw [ed] at c
        exact c)
      have CJ := Lib.hid (fun v w1 (hr : RunsAt w1 v U) (qq : Kp w w1) => by
        have c := ends_any pk v U w1 hr i6 (by omega) (T.kp qq).1
        rw [ed] at c
        exact c)
      have e6 := sane_i64 (edgR_sane (V := lasV pk) (k := pk) (s := U))
      have e4 := dk_elen (V := lasV pk) (k := pk) (s := U)
      have en := nf_of_sane (edgR_sane (V := lasV pk) (k := pk) (s := U))
      generalize edgR (firV pk) pk U = D0 at *
      generalize edgR (lasV pk) pk U = D at *
      have CH := Lib.hid (fun ad c w1 (hr : RunsAt w1 (.slice ad D.length c) D) => by
        have c := has_any ad c D day w1 hr e6 (by omega) h1 h2
        rw [en] at c
        exact c)
      clear T ed i6 l4 uo h e6 e4 en hp
      obtain ⟨W0, hW⟩ : ∃ x, x = w.alloc (.cells #[.int .i64 0, .int .i64 pk, .string y, .string m, .string q, .bool a, .bool false, .slice ad l.length cp] 26) := ⟨_, rfl⟩
      have k0 : Kp w W0 := by rw [hW]; exact Kp.alloc _ _
      have hg : W0.heap[w.heap.size]? = some (.cells #[.int .i64 0, .int .i64 pk, .string y, .string m, .string q, .bool a, .bool false, .slice ad l.length cp] 26 (0, 0)) := by rw [hW]; exact heap_at _ _ _ rfl
      have HB := Lib.hid (fun w1 (qq : Kp W0 w1) => row8 (heap_block qq hg))
      have HW := Lib.hid hW
      have K00 := Lib.hid k0
      have K0 := Lib.hid (Kp.refl W0)
      clear hW k0 hg
      go_enter Tryz.func22, Tryz.ntmps22
      go_wp2_with fail
      rw [← HW.out]
      obtain ⟨c0, c1, c2, c3, c4, c5, c6, c7⟩ := HB.out W0 (Kp.refl _)
      go_wp2_with fail
      refine (PS.out _ K00.out).mono ?_
      rintro e w1 ⟨v1, rfl, own1, kk⟩
      have K1 := Lib.hid (K0.out.trans kk)
      have RU := Lib.hid (runsAt_own own1)
      obtain ⟨a1, b1, rfl⟩ := own_slice own1
      clear own1
      clear kk
      clear c0 c1 c2 c3 c4 c5 c6 c7
      obtain ⟨c0, c1, c2, c3, c4, c5, c6, c7⟩ := HB.out w1 K1.out
      go_wp2_with fail
      refine (CI.out _ _ RU.out (K00.out.trans K1.out)).mono ?_
      rintro e w2 ⟨v5, rfl, own5, kk⟩
      have K2 := Lib.hid (K1.out.trans kk)
      have RU2 := Lib.hid (RU.out.kp kk)
      obtain ⟨a5, b5, rfl⟩ := own_slice own5
      clear own5
      clear kk
      clear c0 c1 c2 c3 c4 c5 c6 c7
      obtain ⟨c0, c1, c2, c3, c4, c5, c6, c7⟩ := HB.out w2 K2.out
      go_wp2_with fail
      refine (CJ.out _ _ RU2.out (K00.out.trans K2.out)).mono ?_
      rintro e w3 ⟨v6, rfl, own6, kk⟩
      have K3 := Lib.hid (K2.out.trans kk)
      have RD := Lib.hid (runsAt_own own6)
      obtain ⟨a6, b6, rfl⟩ := own_slice own6
      clear own6
      clear kk
      clear c0 c1 c2 c3 c4 c5 c6 c7
      obtain ⟨c0, c1, c2, c3, c4, c5, c6, c7⟩ := HB.out w3 K3.out
      go_wp2_with fail
      refine (CH.out _ _ _ RD.out).mono ?_
      rintro e w4 ⟨rfl, kk⟩
      have K4 := Lib.hid (K3.out.trans kk)
      clear kk
      clear c0 c1 c2 c3 c4 c5 c6 c7
      obtain ⟨c0, c1, c2, c3, c4, c5, c6, c7⟩ := HB.out w4 K4.out
      go_wp2
      go_ret
      exact ⟨rfl, K00.out.trans K4.out⟩
    | true =>
      rw [unE_t] at h
      rw [unS_t] at uo ⊢
      have PS := Lib.hid (fun w1 (kk : Kp w w1) => (show Calls Tryz.prog 17 #[.agg #[.int .i64 pk, .string y, .string m, .string q]] w1 _ from pset_any ⟨pk, y, m, q⟩ w1 (T.kp kk)))
      have PN := Lib.hid (fun w1 (kk : Kp w w1) => (show Calls Tryz.prog 18 #[.agg #[.int .i64 pk, .string y, .string m, .string q]] w1 _ from pnear_any ⟨pk, y, m, q⟩ w1 (T.kp kk)))
      rw [h] at PN
      have ed := uo.edg
      have i6 := sane_i64 uo.sane
      have l4 := uo.len
      generalize nearS ⟨pk, y, m, q⟩ = U at *
      have CI := Lib.hid (fun v w1 (hr : RunsAt w1 v U) (qq : Kp w w1) => by
        have c := starts_any pk v U w1 hr i6 (by omega) (T.kp qq).1
        rw [ed] at c
        exact c)
      have CJ := Lib.hid (fun v w1 (hr : RunsAt w1 v U) (qq : Kp w w1) => by
        have c := ends_any pk v U w1 hr i6 (by omega) (T.kp qq).1
        rw [ed] at c
        exact c)
      have e6 := sane_i64 (edgR_sane (V := lasV pk) (k := pk) (s := U))
      have e4 := dk_elen (V := lasV pk) (k := pk) (s := U)
      have en := nf_of_sane (edgR_sane (V := lasV pk) (k := pk) (s := U))
      generalize edgR (firV pk) pk U = D0 at *
      generalize edgR (lasV pk) pk U = D at *
      have CH := Lib.hid (fun ad c w1 (hr : RunsAt w1 (.slice ad D.length c) D) => by
        have c := has_any ad c D day w1 hr e6 (by omega) h1 h2
        rw [en] at c
        exact c)
      clear T ed i6 l4 uo h e6 e4 en hp
      obtain ⟨W0, hW⟩ : ∃ x, x = w.alloc (.cells #[.int .i64 0, .int .i64 pk, .string y, .string m, .string q, .bool a, .bool true, .slice ad l.length cp] 26) := ⟨_, rfl⟩
      have k0 : Kp w W0 := by rw [hW]; exact Kp.alloc _ _
      have hg : W0.heap[w.heap.size]? = some (.cells #[.int .i64 0, .int .i64 pk, .string y, .string m, .string q, .bool a, .bool true, .slice ad l.length cp] 26 (0, 0)) := by rw [hW]; exact heap_at _ _ _ rfl
      have HB := Lib.hid (fun w1 (qq : Kp W0 w1) => row8 (heap_block qq hg))
      have HW := Lib.hid hW
      have K00 := Lib.hid k0
      have K0 := Lib.hid (Kp.refl W0)
      clear hW k0 hg
      go_enter Tryz.func22, Tryz.ntmps22
      go_wp2_with fail
      rw [← HW.out]
      obtain ⟨c0, c1, c2, c3, c4, c5, c6, c7⟩ := HB.out W0 (Kp.refl _)
      go_wp2_with fail
      refine (PS.out _ K00.out).mono ?_
      rintro e w1 ⟨v1, rfl, own1, kk⟩
      have K1 := Lib.hid (K0.out.trans kk)
      obtain ⟨a1, b1, rfl⟩ := own_slice own1
      clear own1
      clear kk
      clear c0 c1 c2 c3 c4 c5 c6 c7
      obtain ⟨c0, c1, c2, c3, c4, c5, c6, c7⟩ := HB.out w1 K1.out
      go_wp2_with fail
      refine (PN.out _ (K00.out.trans K1.out)).mono ?_
      rintro e w2 ⟨v2, rfl, own2, kk⟩
      have K2 := Lib.hid (K1.out.trans kk)
      have RU := Lib.hid (runsAt_own own2)
      obtain ⟨a2, b2, rfl⟩ := own_slice own2
      clear own2
      clear kk
      clear c0 c1 c2 c3 c4 c5 c6 c7
      obtain ⟨c0, c1, c2, c3, c4, c5, c6, c7⟩ := HB.out w2 K2.out
      go_wp2_with fail
      refine (CI.out _ _ RU.out (K00.out.trans K2.out)).mono ?_
      rintro e w3 ⟨v5, rfl, own5, kk⟩
      have K3 := Lib.hid (K2.out.trans kk)
      have RU2 := Lib.hid (RU.out.kp kk)
      obtain ⟨a5, b5, rfl⟩ := own_slice own5
      clear own5
      clear kk
      clear c0 c1 c2 c3 c4 c5 c6 c7
      obtain ⟨c0, c1, c2, c3, c4, c5, c6, c7⟩ := HB.out w3 K3.out
      go_wp2_with fail
      refine (CJ.out _ _ RU2.out (K00.out.trans K3.out)).mono ?_
      rintro e w4 ⟨v6, rfl, own6, kk⟩
      have K4 := Lib.hid (K3.out.trans kk)
      have RD := Lib.hid (runsAt_own own6)
      obtain ⟨a6, b6, rfl⟩ := own_slice own6
      clear own6
      clear kk
      clear c0 c1 c2 c3 c4 c5 c6 c7
      obtain ⟨c0, c1, c2, c3, c4, c5, c6, c7⟩ := HB.out w4 K4.out
      go_wp2_with fail
      refine (CH.out _ _ _ RD.out).mono ?_
      rintro e w5 ⟨rfl, kk⟩
      have K5 := Lib.hid (K4.out.trans kk)
      clear kk
      clear c0 c1 c2 c3 c4 c5 c6 c7
      obtain ⟨c0, c1, c2, c3, c4, c5, c6, c7⟩ := HB.out w5 K5.out
      go_wp2
      go_ret
      exact ⟨rfl, K00.out.trans K5.out⟩
  · unfold endS
    rw [siR_3, hasB_same (by omega) (by omega)]
    unfold ndV
    simp only [ND.k, ND.p, ND.a, ND.t, ND.l, List.length_nil]
    clear he h T
    obtain ⟨b, hb⟩ : ∃ b, (day == 3652424) = b := ⟨_, rfl⟩
    rw [hb]
    cases b
    all_goals
      go_enter Tryz.func22, Tryz.ntmps22
      go_wp2
      go_ret
      exact ⟨rfl, Kp.alloc _ _⟩
  · unfold endS
    rw [siR_4, hasB_one (by omega) (by omega) (by omega)]
    unfold ndV
    simp only [ND.k, ND.p, ND.a, ND.t, ND.l, List.length_nil]
    clear he h T
    by_cases g0 : 0 ≤ day
    · have q0 : decide ((0 : Int) ≤ day) = true := decide_eq_true g0
      have q1 : decide (day ≥ (0 : Int)) = true := decide_eq_true g0
      rw [q0]
      rw [Bool.true_and]
      go_enter Tryz.func22, Tryz.ntmps22
      go_wp2
      go_ret
      exact ⟨rfl, Kp.alloc _ _⟩
    · have q0 : decide ((0 : Int) ≤ day) = false := decide_eq_false g0
      have q1 : decide (day ≥ (0 : Int)) = false := decide_eq_false g0
      rw [q0]
      rw [Bool.false_and]
      go_enter Tryz.func22, Tryz.ntmps22
      go_wp2
      go_ret
      exact ⟨rfl, Kp.alloc _ _⟩
abbrev spA0 : Oper := { dst := some 41, op := Go.Op.move (Go.Operand.tmp 7), type := 4, pos := "law.go:131", after := #[], guard := none }
abbrev spA1 : Oper := { dst := some 42, op := Go.Op.move (Go.Operand.tmp 41), type := 4, pos := "law.go:131", after := #[{ on := 0, ground := Go.Ground.data }], guard := none }
abbrev spA2 : Oper := { dst := some 43, op := Go.Op.move (Go.Operand.tmp 9), type := 29, pos := "law.go:131", after := #[{ on := 1, ground := Go.Ground.guard }], guard := some (1, true) }
abbrev spA3 : Oper := { dst := some 44, op := Go.Op.call { callee := Go.Callee.builtin Go.Builtin.len, args := #[Go.Operand.tmp 43], argTypes := #[29] }, type := 3, pos := "law.go:131", after := #[{ on := 2, ground := Go.Ground.data }, { on := 1, ground := Go.Ground.guard }], guard := some (1, true) }
abbrev spA4 : Oper := { dst := some 45, op := Go.Op.binOp Go.BinOp.eql 3 (Go.Operand.tmp 44) (Go.Operand.const (Go.Value.int Go.IntKind.i64 1)) 3, type := 4, pos := "law.go:131", after := #[{ on := 3, ground := Go.Ground.data }, { on := 1, ground := Go.Ground.guard }], guard := some (1, true) }
abbrev spA5 : Oper := { dst := some 46, op := Go.Op.pick (Go.Operand.tmp 42) (Go.Operand.tmp 45) (Go.Operand.const (Go.Value.bool false)), type := 4, pos := "law.go:131", after := #[{ on := 1, ground := Go.Ground.data }, { on := 4, ground := Go.Ground.data }], guard := none }
abbrev spA6 : Oper := { dst := some 47, op := Go.Op.move (Go.Operand.tmp 46), type := 4, pos := "law.go:131", after := #[{ on := 5, ground := Go.Ground.data }, { on := 1, ground := Go.Ground.chain }], guard := none }
abbrev spA7 : Oper := { dst := some 48, op := Go.Op.move (Go.Operand.tmp 9), type := 29, pos := "law.go:131", after := #[{ on := 6, ground := Go.Ground.guard }], guard := some (6, true) }
abbrev spA8 : Oper := { dst := some 49, op := Go.Op.load 42 (Go.Operand.tmp 5), type := 42, pos := "law.go:131", after := #[{ on := 6, ground := Go.Ground.guard }], guard := some (6, true) }
abbrev spA9 : Oper := { dst := some 50, op := Go.Op.call { callee := Go.Callee.value (Go.Operand.func 19), args := #[Go.Operand.tmp 48, Go.Operand.tmp 49], argTypes := #[29, 42] }, type := 4, pos := "law.go:131", after := #[{ on := 7, ground := Go.Ground.data }, { on := 8, ground := Go.Ground.data }, { on := 6, ground := Go.Ground.chain }, { on := 6, ground := Go.Ground.guard }], guard := some (6, true) }
abbrev spA10 : Oper := { dst := some 51, op := Go.Op.fieldAddr 42 (Go.Operand.tmp 5) 0, type := 0, pos := "law.go:131", after := #[{ on := 6, ground := Go.Ground.guard }], guard := some (6, true) }
abbrev spA11 : Oper := { dst := some 52, op := Go.Op.load 3 (Go.Operand.tmp 51), type := 3, pos := "law.go:131", after := #[{ on := 10, ground := Go.Ground.data }, { on := 6, ground := Go.Ground.guard }], guard := some (6, true) }
abbrev spA12 : Oper := { dst := some 53, op := Go.Op.fieldAddr 42 (Go.Operand.tmp 5) 1, type := 0, pos := "law.go:131", after := #[{ on := 6, ground := Go.Ground.guard }], guard := some (6, true) }
abbrev spA13 : Oper := { dst := some 54, op := Go.Op.load 3 (Go.Operand.tmp 53), type := 3, pos := "law.go:131", after := #[{ on := 12, ground := Go.Ground.data }, { on := 6, ground := Go.Ground.guard }], guard := some (6, true) }
abbrev spA14 : Oper := { dst := some 55, op := Go.Op.binOp Go.BinOp.leq 3 (Go.Operand.tmp 52) (Go.Operand.tmp 54) 3, type := 4, pos := "law.go:131", after := #[{ on := 11, ground := Go.Ground.data }, { on := 13, ground := Go.Ground.data }, { on := 6, ground := Go.Ground.guard }], guard := some (6, true) }
abbrev spA15 : Oper := { dst := some 56, op := Go.Op.move (Go.Operand.tmp 55), type := 4, pos := "law.go:131", after := #[{ on := 14, ground := Go.Ground.data }, { on := 9, ground := Go.Ground.chain }, { on := 6, ground := Go.Ground.guard }], guard := some (6, true) }
abbrev spA16 : Oper := { dst := some 57, op := Go.Op.load 26 (Go.Operand.tmp 3), type := 26, pos := "law.go:131", after := #[{ on := 15, ground := Go.Ground.guard }], guard := some (15, true) }
abbrev spA17 : Oper := { dst := some 58, op := Go.Op.fieldAddr 42 (Go.Operand.tmp 5) 0, type := 0, pos := "law.go:131", after := #[{ on := 15, ground := Go.Ground.guard }], guard := some (15, true) }
abbrev spA18 : Oper := { dst := some 59, op := Go.Op.load 3 (Go.Operand.tmp 58), type := 3, pos := "law.go:131", after := #[{ on := 17, ground := Go.Ground.data }, { on := 15, ground := Go.Ground.guard }], guard := some (15, true) }
abbrev spA19 : Oper := { dst := some 60, op := Go.Op.call { callee := Go.Callee.value (Go.Operand.func 22), args := #[Go.Operand.tmp 57, Go.Operand.tmp 59, Go.Operand.const (Go.Value.bool false)], argTypes := #[26, 3, 4] }, type := 4, pos := "law.go:131", after := #[{ on := 16, ground := Go.Ground.data }, { on := 18, ground := Go.Ground.data }, { on := 15, ground := Go.Ground.chain }, { on := 15, ground := Go.Ground.guard }], guard := some (15, true) }
abbrev spA20 : Oper := { dst := some 61, op := Go.Op.pick (Go.Operand.tmp 56) (Go.Operand.tmp 60) (Go.Operand.const (Go.Value.bool false)), type := 4, pos := "law.go:131", after := #[{ on := 15, ground := Go.Ground.data }, { on := 19, ground := Go.Ground.data }, { on := 6, ground := Go.Ground.guard }], guard := some (6, true) }
abbrev spA21 : Oper := { dst := some 62, op := Go.Op.move (Go.Operand.tmp 61), type := 4, pos := "law.go:131", after := #[{ on := 20, ground := Go.Ground.data }, { on := 19, ground := Go.Ground.chain }, { on := 6, ground := Go.Ground.guard }], guard := some (6, true) }
abbrev spA22 : Oper := { dst := some 63, op := Go.Op.load 26 (Go.Operand.tmp 4), type := 26, pos := "law.go:131", after := #[{ on := 21, ground := Go.Ground.guard }], guard := some (21, true) }
abbrev spA23 : Oper := { dst := some 64, op := Go.Op.fieldAddr 42 (Go.Operand.tmp 5) 1, type := 0, pos := "law.go:131", after := #[{ on := 21, ground := Go.Ground.guard }], guard := some (21, true) }
abbrev spA24 : Oper := { dst := some 65, op := Go.Op.load 3 (Go.Operand.tmp 64), type := 3, pos := "law.go:131", after := #[{ on := 23, ground := Go.Ground.data }, { on := 21, ground := Go.Ground.guard }], guard := some (21, true) }
abbrev spA25 : Oper := { dst := some 66, op := Go.Op.call { callee := Go.Callee.value (Go.Operand.func 22), args := #[Go.Operand.tmp 63, Go.Operand.tmp 65, Go.Operand.const (Go.Value.bool true)], argTypes := #[26, 3, 4] }, type := 4, pos := "law.go:131", after := #[{ on := 22, ground := Go.Ground.data }, { on := 24, ground := Go.Ground.data }, { on := 21, ground := Go.Ground.chain }, { on := 21, ground := Go.Ground.guard }], guard := some (21, true) }
abbrev spA26 : Oper := { dst := some 67, op := Go.Op.pick (Go.Operand.tmp 62) (Go.Operand.tmp 66) (Go.Operand.const (Go.Value.bool false)), type := 4, pos := "law.go:131", after := #[{ on := 21, ground := Go.Ground.data }, { on := 25, ground := Go.Ground.data }, { on := 6, ground := Go.Ground.guard }], guard := some (6, true) }
abbrev spA27 : Oper := { dst := some 68, op := Go.Op.binOp Go.BinOp.eql 4 (Go.Operand.tmp 50) (Go.Operand.tmp 67) 4, type := 4, pos := "law.go:131", after := #[{ on := 9, ground := Go.Ground.data }, { on := 26, ground := Go.Ground.data }, { on := 6, ground := Go.Ground.guard }], guard := some (6, true) }
abbrev spA28 : Oper := { dst := some 69, op := Go.Op.pick (Go.Operand.tmp 47) (Go.Operand.tmp 68) (Go.Operand.const (Go.Value.bool false)), type := 4, pos := "law.go:131", after := #[{ on := 6, ground := Go.Ground.data }, { on := 27, ground := Go.Ground.data }], guard := none }
abbrev spA29 : Oper := { dst := some 6, op := Go.Op.assign (Go.Operand.tmp 69), type := 4, pos := "law.go:131", after := #[{ on := 28, ground := Go.Ground.data }, { on := 25, ground := Go.Ground.chain }, { on := 0, ground := Go.Ground.phase }, { on := 1, ground := Go.Ground.phase }, { on := 2, ground := Go.Ground.phase }, { on := 3, ground := Go.Ground.phase }, { on := 4, ground := Go.Ground.phase }, { on := 5, ground := Go.Ground.phase }, { on := 6, ground := Go.Ground.phase }, { on := 7, ground := Go.Ground.phase }, { on := 8, ground := Go.Ground.phase }, { on := 9, ground := Go.Ground.phase }, { on := 10, ground := Go.Ground.phase }, { on := 11, ground := Go.Ground.phase }, { on := 12, ground := Go.Ground.phase }, { on := 13, ground := Go.Ground.phase }, { on := 14, ground := Go.Ground.phase }, { on := 15, ground := Go.Ground.phase }, { on := 16, ground := Go.Ground.phase }, { on := 17, ground := Go.Ground.phase }, { on := 18, ground := Go.Ground.phase }, { on := 19, ground := Go.Ground.phase }, { on := 20, ground := Go.Ground.phase }, { on := 21, ground := Go.Ground.phase }, { on := 22, ground := Go.Ground.phase }, { on := 23, ground := Go.Ground.phase }, { on := 24, ground := Go.Ground.phase }, { on := 25, ground := Go.Ground.phase }, { on := 26, ground := Go.Ground.phase }, { on := 27, ground := Go.Ground.phase }, { on := 28, ground := Go.Ground.phase }], guard := none }
set_option maxHeartbeats 16000000 in
set_option maxRecDepth 100000 in
theorem dspan_no (x : ND) (ux : Value) (z : ND) (uz : Value) (qS qE : Int) (w : World) (hx : NodesAt w ux x.l) (hz : NodesAt w uz z.l) (hq1 : -9223372036854775808 ≤ qS) (hq2 : qS ≤ 9223372036854775807) (hq3 : -9223372036854775808 ≤ qE) (hq4 : qE ≤ 9223372036854775807) (T : Tabs8 w) (hs : saneN saneP (.mk 1 e15 false false [x, z] : ND) = false) :
    Calls Tryz.prog 6 #[ndV x ux, ndV z uz, .agg #[.int .i64 qS, .int .i64 qE]] w fun e w' => e = .returned (.bool true) ∧ Kp w w' := by
  have AW := Lib.hid (fun w1 (kk : Kp w w1) => awake15 w1 (T.kp kk))
  have BT := Lib.hid (fun w1 (kk : Kp w w1) => between_any x z ux uz w1 (hx.kp kk) (hz.kp kk))
  have SM := Lib.hid (fun s w1 (h : NodesAt w1 s [x, z]) => small_any (.mk 1 e15 false false [x, z] : ND) s w1 h)
  have SN := Lib.hid (fun s w1 (h : NodesAt w1 s [x, z]) (kk : Kp w w1) => tSaneG_any (.mk 1 e15 false false [x, z] : ND) s w1 h (T.kp kk).2.1)
  rw [hs] at SN
  clear hs T
  obtain ⟨adx, cpx, rfl⟩ := hx.slice
  obtain ⟨kx, pkx, yx, mx, qx, ax, tx, lx, rfl⟩ := nd_dest x
  obtain ⟨adz, cpz, rfl⟩ := hz.slice
  obtain ⟨kz, pkz, yz, mz, qz, az, tz, lz, rfl⟩ := nd_dest z
  unfold e15 ndV at *
  simp only [ND.k, ND.p, ND.a, ND.t, ND.l] at *
  obtain ⟨W0, hW⟩ : ∃ W0, W0 = ((w.alloc (.cells #[.int .i64 kx, .int .i64 pkx, .string yx, .string mx, .string qx, .bool ax, .bool tx, .slice adx lx.length cpx] 26)).alloc (.cells #[.int .i64 kz, .int .i64 pkz, .string yz, .string mz, .string qz, .bool az, .bool tz, .slice adz lz.length cpz] 26)).alloc (.cells #[.int .i64 qS, .int .i64 qE] 42) := ⟨_, rfl⟩
  have K00 := Lib.hid (show Kp w W0 by rw [hW]; exact ((Kp.alloc _ _).trans (Kp.alloc _ _)).trans (Kp.alloc _ _))
  have HB := Lib.hid (fun w1 (k : Kp W0 w1) => show w1.cell? ⟨w.heap.size, 0, none⟩ = some (.int .i64 kx) ∧ w1.cell? ⟨w.heap.size, 1, none⟩ = some (.int .i64 pkx) ∧ w1.cell? ⟨w.heap.size, 2, none⟩ = some (.string yx) ∧ w1.cell? ⟨w.heap.size, 3, none⟩ = some (.string mx) ∧ w1.cell? ⟨w.heap.size, 4, none⟩ = some (.string qx) ∧ w1.cell? ⟨w.heap.size, 5, none⟩ = some (.bool ax) ∧ w1.cell? ⟨w.heap.size, 6, none⟩ = some (.bool tx) ∧ w1.cell? ⟨w.heap.size, 7, none⟩ = some (.slice adx lx.length cpx) ∧ w1.cell? ⟨w.heap.size + 1, 0, none⟩ = some (.int .i64 kz) ∧ w1.cell? ⟨w.heap.size + 1, 1, none⟩ = some (.int .i64 pkz) ∧ w1.cell? ⟨w.heap.size + 1, 2, none⟩ = some (.string yz) ∧ w1.cell? ⟨w.heap.size + 1, 3, none⟩ = some (.string mz) ∧ w1.cell? ⟨w.heap.size + 1, 4, none⟩ = some (.string qz) ∧ w1.cell? ⟨w.heap.size + 1, 5, none⟩ = some (.bool az) ∧ w1.cell? ⟨w.heap.size + 1, 6, none⟩ = some (.bool tz) ∧ w1.cell? ⟨w.heap.size + 1, 7, none⟩ = some (.slice adz lz.length cpz) ∧ w1.cell? ⟨w.heap.size + 1 + 1, 0, none⟩ = some (.int .i64 qS) ∧ w1.cell? ⟨w.heap.size + 1 + 1, 1, none⟩ = some (.int .i64 qE) from ⟨cell_up k (show W0.cell? ⟨w.heap.size, 0, none⟩ = some (.int .i64 kx) by rw [hW]; go_simp), cell_up k (show W0.cell? ⟨w.heap.size, 1, none⟩ = some (.int .i64 pkx) by rw [hW]; go_simp), cell_up k (show W0.cell? ⟨w.heap.size, 2, none⟩ = some (.string yx) by rw [hW]; go_simp), cell_up k (show W0.cell? ⟨w.heap.size, 3, none⟩ = some (.string mx) by rw [hW]; go_simp), cell_up k (show W0.cell? ⟨w.heap.size, 4, none⟩ = some (.string qx) by rw [hW]; go_simp), cell_up k (show W0.cell? ⟨w.heap.size, 5, none⟩ = some (.bool ax) by rw [hW]; go_simp), cell_up k (show W0.cell? ⟨w.heap.size, 6, none⟩ = some (.bool tx) by rw [hW]; go_simp), cell_up k (show W0.cell? ⟨w.heap.size, 7, none⟩ = some (.slice adx lx.length cpx) by rw [hW]; go_simp), cell_up k (show W0.cell? ⟨w.heap.size + 1, 0, none⟩ = some (.int .i64 kz) by rw [hW]; go_simp), cell_up k (show W0.cell? ⟨w.heap.size + 1, 1, none⟩ = some (.int .i64 pkz) by rw [hW]; go_simp), cell_up k (show W0.cell? ⟨w.heap.size + 1, 2, none⟩ = some (.string yz) by rw [hW]; go_simp), cell_up k (show W0.cell? ⟨w.heap.size + 1, 3, none⟩ = some (.string mz) by rw [hW]; go_simp), cell_up k (show W0.cell? ⟨w.heap.size + 1, 4, none⟩ = some (.string qz) by rw [hW]; go_simp), cell_up k (show W0.cell? ⟨w.heap.size + 1, 5, none⟩ = some (.bool az) by rw [hW]; go_simp), cell_up k (show W0.cell? ⟨w.heap.size + 1, 6, none⟩ = some (.bool tz) by rw [hW]; go_simp), cell_up k (show W0.cell? ⟨w.heap.size + 1, 7, none⟩ = some (.slice adz lz.length cpz) by rw [hW]; go_simp), cell_up k (show W0.cell? ⟨w.heap.size + 1 + 1, 0, none⟩ = some (.int .i64 qS) by rw [hW]; go_simp), cell_up k (show W0.cell? ⟨w.heap.size + 1 + 1, 1, none⟩ = some (.int .i64 qE) by rw [hW]; go_simp)⟩)
  obtain ⟨c0, c1, c2, c3, c4, c5, c6, c7, c8, c9, c10, c11, c12, c13, c14, c15, c16, c17⟩ := HB.out W0 (Kp.refl _)
  have K0 := Lib.hid (Kp.refl W0)
  have HW := Lib.hid hW
  clear hW
  go_enter Tryz.func6, Tryz.ntmps6
  go_wp2_with fail
  rw [← HW.out]
  refine (AW.out _ (K00.out.trans (by first | with_reducible exact K0.out | with_reducible exact K0.out.trans (Kp.alloc _ _) | with_reducible exact (K0.out.trans (Kp.alloc _ _)).trans (Kp.alloc _ _) | with_reducible exact ((K0.out.trans (Kp.alloc _ _)).trans (Kp.alloc _ _)).trans (Kp.alloc _ _) | with_reducible exact K0.out.trans (Kp.drew _) | with_reducible exact K0.out.trans (Kp.drewN _ _)))).mono ?_
  rintro e w1 ⟨rfl, kk⟩
  have K1 := Lib.hid ((show Kp W0 _ from (by first | with_reducible exact K0.out | with_reducible exact K0.out.trans (Kp.alloc _ _) | with_reducible exact (K0.out.trans (Kp.alloc _ _)).trans (Kp.alloc _ _) | with_reducible exact ((K0.out.trans (Kp.alloc _ _)).trans (Kp.alloc _ _)).trans (Kp.alloc _ _) | with_reducible exact K0.out.trans (Kp.drew _) | with_reducible exact K0.out.trans (Kp.drewN _ _))).trans kk)
  clear kk
  clear c0 c1 c2 c3 c4 c5 c6 c7 c8 c9 c10 c11 c12 c13 c14 c15 c16 c17
  obtain ⟨c0, c1, c2, c3, c4, c5, c6, c7, c8, c9, c10, c11, c12, c13, c14, c15, c16, c17⟩ := HB.out w1 K1.out
  go_wp2_with fail
  refine (BT.out _ (K00.out.trans (by first | with_reducible exact K1.out | with_reducible exact K1.out.trans (Kp.alloc _ _) | with_reducible exact (K1.out.trans (Kp.alloc _ _)).trans (Kp.alloc _ _) | with_reducible exact ((K1.out.trans (Kp.alloc _ _)).trans (Kp.alloc _ _)).trans (Kp.alloc _ _) | with_reducible exact K1.out.trans (Kp.drew _) | with_reducible exact K1.out.trans (Kp.drewN _ _)))).mono ?_
  rintro e w2 ⟨s, rfl, hs2, kk⟩
  have K2 := Lib.hid ((show Kp W0 _ from (by first | with_reducible exact K1.out | with_reducible exact K1.out.trans (Kp.alloc _ _) | with_reducible exact (K1.out.trans (Kp.alloc _ _)).trans (Kp.alloc _ _) | with_reducible exact ((K1.out.trans (Kp.alloc _ _)).trans (Kp.alloc _ _)).trans (Kp.alloc _ _) | with_reducible exact K1.out.trans (Kp.drew _) | with_reducible exact K1.out.trans (Kp.drewN _ _))).trans kk)
  have NS2 := Lib.hid hs2
  obtain ⟨ads, cps, rfl⟩ := hs2.slice
  clear kk hs2
  clear c0 c1 c2 c3 c4 c5 c6 c7 c8 c9 c10 c11 c12 c13 c14 c15 c16 c17
  obtain ⟨c0, c1, c2, c3, c4, c5, c6, c7, c8, c9, c10, c11, c12, c13, c14, c15, c16, c17⟩ := HB.out w2 K2.out
  obtain ⟨w3, hV⟩ : ∃ x, x = w2.alloc (.cells #[.int .i64 1, .int .i64 0, .string ⟨#[]⟩, .string ⟨#[]⟩, .string ⟨#[]⟩, .bool false, .bool false, .slice ads 2 cps] 26) := ⟨_, rfl⟩
  have ka : Kp w2 w3 := by rw [hV]; exact Kp.alloc _ _
  have hgq : w3.heap[w2.heap.size]? = some (.cells #[.int .i64 1, .int .i64 0, .string ⟨#[]⟩, .string ⟨#[]⟩, .string ⟨#[]⟩, .bool false, .bool false, .slice ads 2 cps] 26 (0, 0)) := by rw [hV]; exact heap_at _ _ _ rfl
  have q0 : w3.cell? ⟨w2.heap.size, 0, none⟩ = some (.int .i64 1) := by simp [World.cell?, hgq]
  have q1 : w3.cell? ⟨w2.heap.size, 1, none⟩ = some (.int .i64 0) := by simp [World.cell?, hgq]
  have q2 : w3.cell? ⟨w2.heap.size, 2, none⟩ = some (.string ⟨#[]⟩) := by simp [World.cell?, hgq]
  have q3 : w3.cell? ⟨w2.heap.size, 3, none⟩ = some (.string ⟨#[]⟩) := by simp [World.cell?, hgq]
  have q4 : w3.cell? ⟨w2.heap.size, 4, none⟩ = some (.string ⟨#[]⟩) := by simp [World.cell?, hgq]
  have q5 : w3.cell? ⟨w2.heap.size, 5, none⟩ = some (.bool false) := by simp [World.cell?, hgq]
  have q6 : w3.cell? ⟨w2.heap.size, 6, none⟩ = some (.bool false) := by simp [World.cell?, hgq]
  have q7 : w3.cell? ⟨w2.heap.size, 7, none⟩ = some (.slice ads 2 cps) := by simp [World.cell?, hgq]
  have HB2 := Lib.hid (fun w1 (k : Kp w3 w1) => show w1.cell? ⟨w.heap.size, 0, none⟩ = some (.int .i64 kx) ∧ w1.cell? ⟨w.heap.size, 1, none⟩ = some (.int .i64 pkx) ∧ w1.cell? ⟨w.heap.size, 2, none⟩ = some (.string yx) ∧ w1.cell? ⟨w.heap.size, 3, none⟩ = some (.string mx) ∧ w1.cell? ⟨w.heap.size, 4, none⟩ = some (.string qx) ∧ w1.cell? ⟨w.heap.size, 5, none⟩ = some (.bool ax) ∧ w1.cell? ⟨w.heap.size, 6, none⟩ = some (.bool tx) ∧ w1.cell? ⟨w.heap.size, 7, none⟩ = some (.slice adx lx.length cpx) ∧ w1.cell? ⟨w.heap.size + 1, 0, none⟩ = some (.int .i64 kz) ∧ w1.cell? ⟨w.heap.size + 1, 1, none⟩ = some (.int .i64 pkz) ∧ w1.cell? ⟨w.heap.size + 1, 2, none⟩ = some (.string yz) ∧ w1.cell? ⟨w.heap.size + 1, 3, none⟩ = some (.string mz) ∧ w1.cell? ⟨w.heap.size + 1, 4, none⟩ = some (.string qz) ∧ w1.cell? ⟨w.heap.size + 1, 5, none⟩ = some (.bool az) ∧ w1.cell? ⟨w.heap.size + 1, 6, none⟩ = some (.bool tz) ∧ w1.cell? ⟨w.heap.size + 1, 7, none⟩ = some (.slice adz lz.length cpz) ∧ w1.cell? ⟨w.heap.size + 1 + 1, 0, none⟩ = some (.int .i64 qS) ∧ w1.cell? ⟨w.heap.size + 1 + 1, 1, none⟩ = some (.int .i64 qE) ∧ w1.cell? ⟨w2.heap.size, 0, none⟩ = some (.int .i64 1) ∧ w1.cell? ⟨w2.heap.size, 1, none⟩ = some (.int .i64 0) ∧ w1.cell? ⟨w2.heap.size, 2, none⟩ = some (.string ⟨#[]⟩) ∧ w1.cell? ⟨w2.heap.size, 3, none⟩ = some (.string ⟨#[]⟩) ∧ w1.cell? ⟨w2.heap.size, 4, none⟩ = some (.string ⟨#[]⟩) ∧ w1.cell? ⟨w2.heap.size, 5, none⟩ = some (.bool false) ∧ w1.cell? ⟨w2.heap.size, 6, none⟩ = some (.bool false) ∧ w1.cell? ⟨w2.heap.size, 7, none⟩ = some (.slice ads 2 cps) from ⟨(HB.out w1 (K2.out.trans (ka.trans k))).1, (HB.out w1 (K2.out.trans (ka.trans k))).2.1, (HB.out w1 (K2.out.trans (ka.trans k))).2.2.1, (HB.out w1 (K2.out.trans (ka.trans k))).2.2.2.1, (HB.out w1 (K2.out.trans (ka.trans k))).2.2.2.2.1, (HB.out w1 (K2.out.trans (ka.trans k))).2.2.2.2.2.1, (HB.out w1 (K2.out.trans (ka.trans k))).2.2.2.2.2.2.1, (HB.out w1 (K2.out.trans (ka.trans k))).2.2.2.2.2.2.2.1, (HB.out w1 (K2.out.trans (ka.trans k))).2.2.2.2.2.2.2.2.1, (HB.out w1 (K2.out.trans (ka.trans k))).2.2.2.2.2.2.2.2.2.1, (HB.out w1 (K2.out.trans (ka.trans k))).2.2.2.2.2.2.2.2.2.2.1, (HB.out w1 (K2.out.trans (ka.trans k))).2.2.2.2.2.2.2.2.2.2.2.1, (HB.out w1 (K2.out.trans (ka.trans k))).2.2.2.2.2.2.2.2.2.2.2.2.1, (HB.out w1 (K2.out.trans (ka.trans k))).2.2.2.2.2.2.2.2.2.2.2.2.2.1, (HB.out w1 (K2.out.trans (ka.trans k))).2.2.2.2.2.2.2.2.2.2.2.2.2.2.1, (HB.out w1 (K2.out.trans (ka.trans k))).2.2.2.2.2.2.2.2.2.2.2.2.2.2.2.1, (HB.out w1 (K2.out.trans (ka.trans k))).2.2.2.2.2.2.2.2.2.2.2.2.2.2.2.2.1, (HB.out w1 (K2.out.trans (ka.trans k))).2.2.2.2.2.2.2.2.2.2.2.2.2.2.2.2.2, cell_up k q0, cell_up k q1, cell_up k q2, cell_up k q3, cell_up k q4, cell_up k q5, cell_up k q6, cell_up k q7⟩)
  have K01 := Lib.hid (K00.out.trans (K2.out.trans ka))
  have NS3 := Lib.hid (NS2.out.kp ka)
  clear HB K00 hgq c0 c1 c2 c3 c4 c5 c6 c7 c8 c9 c10 c11 c12 c13 c14 c15 c16 c17 q0 q1 q2 q3 q4 q5 q6 q7
  have HB := HB2
  have K00 := K01
  clear HB2 K01
  have K3 := Lib.hid (Kp.refl w3)
  have Hw3 := Lib.hid hV
  clear hV ka
  go_wp2_with fail
  rw [← Hw3.out]
  obtain ⟨c0, c1, c2, c3, c4, c5, c6, c7, c8, c9, c10, c11, c12, c13, c14, c15, c16, c17, c18, c19, c20, c21, c22, c23, c24, c25⟩ := HB.out w3 (Kp.refl _)
  go_wp2_with fail
  refine (SM.out _ _ (NS3.out.kp (by first | with_reducible exact Kp.refl _ | with_reducible exact Kp.alloc _ _ | with_reducible exact (Kp.alloc _ _).trans (Kp.alloc _ _) | with_reducible exact ((Kp.alloc _ _).trans (Kp.alloc _ _)).trans (Kp.alloc _ _) | with_reducible exact Kp.drew _ | with_reducible exact Kp.drewN _ _))).mono ?_
  rintro e w4 ⟨⟨b, hb, rfl⟩, kk⟩
  have K4 := Lib.hid ((show Kp w3 _ from (by first | with_reducible exact K3.out | with_reducible exact K3.out.trans (Kp.alloc _ _) | with_reducible exact (K3.out.trans (Kp.alloc _ _)).trans (Kp.alloc _ _) | with_reducible exact ((K3.out.trans (Kp.alloc _ _)).trans (Kp.alloc _ _)).trans (Kp.alloc _ _) | with_reducible exact K3.out.trans (Kp.drew _) | with_reducible exact K3.out.trans (Kp.drewN _ _))).trans kk)
  clear kk c0 c1 c2 c3 c4 c5 c6 c7 c8 c9 c10 c11 c12 c13 c14 c15 c16 c17 c18 c19 c20 c21 c22 c23 c24 c25
  obtain ⟨c0, c1, c2, c3, c4, c5, c6, c7, c8, c9, c10, c11, c12, c13, c14, c15, c16, c17, c18, c19, c20, c21, c22, c23, c24, c25⟩ := HB.out w4 K4.out
  rcases hb with rfl | rfl
  rotate_left
  · go_wp2
    go_ret
    exact ⟨rfl, K00.out.trans K4.out⟩
  go_wp2_with fail
  refine (SN.out _ _ (NS3.out.kp (by first | with_reducible exact K4.out | with_reducible exact K4.out.trans (Kp.alloc _ _) | with_reducible exact (K4.out.trans (Kp.alloc _ _)).trans (Kp.alloc _ _) | with_reducible exact ((K4.out.trans (Kp.alloc _ _)).trans (Kp.alloc _ _)).trans (Kp.alloc _ _) | with_reducible exact K4.out.trans (Kp.drew _) | with_reducible exact K4.out.trans (Kp.drewN _ _))) (K00.out.trans (by first | with_reducible exact K4.out | with_reducible exact K4.out.trans (Kp.alloc _ _) | with_reducible exact (K4.out.trans (Kp.alloc _ _)).trans (Kp.alloc _ _) | with_reducible exact ((K4.out.trans (Kp.alloc _ _)).trans (Kp.alloc _ _)).trans (Kp.alloc _ _) | with_reducible exact K4.out.trans (Kp.drew _) | with_reducible exact K4.out.trans (Kp.drewN _ _)))).mono ?_
  rintro e w5 ⟨rfl, kk⟩
  have K5 := Lib.hid ((show Kp w3 _ from (by first | with_reducible exact K4.out | with_reducible exact K4.out.trans (Kp.alloc _ _) | with_reducible exact (K4.out.trans (Kp.alloc _ _)).trans (Kp.alloc _ _) | with_reducible exact ((K4.out.trans (Kp.alloc _ _)).trans (Kp.alloc _ _)).trans (Kp.alloc _ _) | with_reducible exact K4.out.trans (Kp.drew _) | with_reducible exact K4.out.trans (Kp.drewN _ _))).trans kk)
  clear kk
  clear c0 c1 c2 c3 c4 c5 c6 c7 c8 c9 c10 c11 c12 c13 c14 c15 c16 c17 c18 c19 c20 c21 c22 c23 c24 c25
  obtain ⟨c0, c1, c2, c3, c4, c5, c6, c7, c8, c9, c10, c11, c12, c13, c14, c15, c16, c17, c18, c19, c20, c21, c22, c23, c24, c25⟩ := HB.out w5 K5.out
  go_wp2
  go_ret
  exact ⟨rfl, K00.out.trans K5.out⟩
set_option maxHeartbeats 16000000 in
set_option maxRecDepth 100000 in
theorem dspan_wide (x : ND) (ux : Value) (z : ND) (uz : Value) (qS qE : Int) (w : World) (hx : NodesAt w ux x.l) (hz : NodesAt w uz z.l) (hq1 : -9223372036854775808 ≤ qS) (hq2 : qS ≤ 9223372036854775807) (hq3 : -9223372036854775808 ≤ qE) (hq4 : qE ≤ 9223372036854775807) (T : Tabs8 w) (hs : saneN saneP (.mk 1 e15 false false [x, z] : ND) = true) (hE : ofE (.mk 1 e15 false false [x, z] : ND) = 8) (hS : ofS (.mk 1 e15 false false [x, z] : ND) = []) :
    Calls Tryz.prog 6 #[ndV x ux, ndV z uz, .agg #[.int .i64 qS, .int .i64 qE]] w fun e w' => e = .returned (.bool true) ∧ Kp w w' := by
  have AW := Lib.hid (fun w1 (kk : Kp w w1) => awake15 w1 (T.kp kk))
  have BT := Lib.hid (fun w1 (kk : Kp w w1) => between_any x z ux uz w1 (hx.kp kk) (hz.kp kk))
  have SM := Lib.hid (fun s w1 (h : NodesAt w1 s [x, z]) => small_any (.mk 1 e15 false false [x, z] : ND) s w1 h)
  have SN := Lib.hid (fun s w1 (h : NodesAt w1 s [x, z]) (kk : Kp w w1) => tSaneG_any (.mk 1 e15 false false [x, z] : ND) s w1 h (T.kp kk).2.1)
  have OF := Lib.hid (fun s w1 (h : NodesAt w1 s [x, z]) (kk : Kp w w1) => dnOf_any (.mk 1 e15 false false [x, z] : ND) s w1 h (T.kp kk))
  rw [hE, hS] at OF
  rw [hs] at SN
  clear hs hE hS T
  obtain ⟨adx, cpx, rfl⟩ := hx.slice
  obtain ⟨kx, pkx, yx, mx, qx, ax, tx, lx, rfl⟩ := nd_dest x
  obtain ⟨adz, cpz, rfl⟩ := hz.slice
  obtain ⟨kz, pkz, yz, mz, qz, az, tz, lz, rfl⟩ := nd_dest z
  unfold e15 ndV at *
  simp only [ND.k, ND.p, ND.a, ND.t, ND.l] at *
  obtain ⟨W0, hW⟩ : ∃ W0, W0 = ((w.alloc (.cells #[.int .i64 kx, .int .i64 pkx, .string yx, .string mx, .string qx, .bool ax, .bool tx, .slice adx lx.length cpx] 26)).alloc (.cells #[.int .i64 kz, .int .i64 pkz, .string yz, .string mz, .string qz, .bool az, .bool tz, .slice adz lz.length cpz] 26)).alloc (.cells #[.int .i64 qS, .int .i64 qE] 42) := ⟨_, rfl⟩
  have K00 := Lib.hid (show Kp w W0 by rw [hW]; exact ((Kp.alloc _ _).trans (Kp.alloc _ _)).trans (Kp.alloc _ _))
  have HB := Lib.hid (fun w1 (k : Kp W0 w1) => show w1.cell? ⟨w.heap.size, 0, none⟩ = some (.int .i64 kx) ∧ w1.cell? ⟨w.heap.size, 1, none⟩ = some (.int .i64 pkx) ∧ w1.cell? ⟨w.heap.size, 2, none⟩ = some (.string yx) ∧ w1.cell? ⟨w.heap.size, 3, none⟩ = some (.string mx) ∧ w1.cell? ⟨w.heap.size, 4, none⟩ = some (.string qx) ∧ w1.cell? ⟨w.heap.size, 5, none⟩ = some (.bool ax) ∧ w1.cell? ⟨w.heap.size, 6, none⟩ = some (.bool tx) ∧ w1.cell? ⟨w.heap.size, 7, none⟩ = some (.slice adx lx.length cpx) ∧ w1.cell? ⟨w.heap.size + 1, 0, none⟩ = some (.int .i64 kz) ∧ w1.cell? ⟨w.heap.size + 1, 1, none⟩ = some (.int .i64 pkz) ∧ w1.cell? ⟨w.heap.size + 1, 2, none⟩ = some (.string yz) ∧ w1.cell? ⟨w.heap.size + 1, 3, none⟩ = some (.string mz) ∧ w1.cell? ⟨w.heap.size + 1, 4, none⟩ = some (.string qz) ∧ w1.cell? ⟨w.heap.size + 1, 5, none⟩ = some (.bool az) ∧ w1.cell? ⟨w.heap.size + 1, 6, none⟩ = some (.bool tz) ∧ w1.cell? ⟨w.heap.size + 1, 7, none⟩ = some (.slice adz lz.length cpz) ∧ w1.cell? ⟨w.heap.size + 1 + 1, 0, none⟩ = some (.int .i64 qS) ∧ w1.cell? ⟨w.heap.size + 1 + 1, 1, none⟩ = some (.int .i64 qE) from ⟨cell_up k (show W0.cell? ⟨w.heap.size, 0, none⟩ = some (.int .i64 kx) by rw [hW]; go_simp), cell_up k (show W0.cell? ⟨w.heap.size, 1, none⟩ = some (.int .i64 pkx) by rw [hW]; go_simp), cell_up k (show W0.cell? ⟨w.heap.size, 2, none⟩ = some (.string yx) by rw [hW]; go_simp), cell_up k (show W0.cell? ⟨w.heap.size, 3, none⟩ = some (.string mx) by rw [hW]; go_simp), cell_up k (show W0.cell? ⟨w.heap.size, 4, none⟩ = some (.string qx) by rw [hW]; go_simp), cell_up k (show W0.cell? ⟨w.heap.size, 5, none⟩ = some (.bool ax) by rw [hW]; go_simp), cell_up k (show W0.cell? ⟨w.heap.size, 6, none⟩ = some (.bool tx) by rw [hW]; go_simp), cell_up k (show W0.cell? ⟨w.heap.size, 7, none⟩ = some (.slice adx lx.length cpx) by rw [hW]; go_simp), cell_up k (show W0.cell? ⟨w.heap.size + 1, 0, none⟩ = some (.int .i64 kz) by rw [hW]; go_simp), cell_up k (show W0.cell? ⟨w.heap.size + 1, 1, none⟩ = some (.int .i64 pkz) by rw [hW]; go_simp), cell_up k (show W0.cell? ⟨w.heap.size + 1, 2, none⟩ = some (.string yz) by rw [hW]; go_simp), cell_up k (show W0.cell? ⟨w.heap.size + 1, 3, none⟩ = some (.string mz) by rw [hW]; go_simp), cell_up k (show W0.cell? ⟨w.heap.size + 1, 4, none⟩ = some (.string qz) by rw [hW]; go_simp), cell_up k (show W0.cell? ⟨w.heap.size + 1, 5, none⟩ = some (.bool az) by rw [hW]; go_simp), cell_up k (show W0.cell? ⟨w.heap.size + 1, 6, none⟩ = some (.bool tz) by rw [hW]; go_simp), cell_up k (show W0.cell? ⟨w.heap.size + 1, 7, none⟩ = some (.slice adz lz.length cpz) by rw [hW]; go_simp), cell_up k (show W0.cell? ⟨w.heap.size + 1 + 1, 0, none⟩ = some (.int .i64 qS) by rw [hW]; go_simp), cell_up k (show W0.cell? ⟨w.heap.size + 1 + 1, 1, none⟩ = some (.int .i64 qE) by rw [hW]; go_simp)⟩)
  obtain ⟨c0, c1, c2, c3, c4, c5, c6, c7, c8, c9, c10, c11, c12, c13, c14, c15, c16, c17⟩ := HB.out W0 (Kp.refl _)
  have K0 := Lib.hid (Kp.refl W0)
  have HW := Lib.hid hW
  clear hW
  go_enter Tryz.func6, Tryz.ntmps6
  go_wp2_with fail
  rw [← HW.out]
  refine (AW.out _ (K00.out.trans (by first | with_reducible exact K0.out | with_reducible exact K0.out.trans (Kp.alloc _ _) | with_reducible exact (K0.out.trans (Kp.alloc _ _)).trans (Kp.alloc _ _) | with_reducible exact ((K0.out.trans (Kp.alloc _ _)).trans (Kp.alloc _ _)).trans (Kp.alloc _ _) | with_reducible exact K0.out.trans (Kp.drew _) | with_reducible exact K0.out.trans (Kp.drewN _ _)))).mono ?_
  rintro e w1 ⟨rfl, kk⟩
  have K1 := Lib.hid ((show Kp W0 _ from (by first | with_reducible exact K0.out | with_reducible exact K0.out.trans (Kp.alloc _ _) | with_reducible exact (K0.out.trans (Kp.alloc _ _)).trans (Kp.alloc _ _) | with_reducible exact ((K0.out.trans (Kp.alloc _ _)).trans (Kp.alloc _ _)).trans (Kp.alloc _ _) | with_reducible exact K0.out.trans (Kp.drew _) | with_reducible exact K0.out.trans (Kp.drewN _ _))).trans kk)
  clear kk
  clear c0 c1 c2 c3 c4 c5 c6 c7 c8 c9 c10 c11 c12 c13 c14 c15 c16 c17
  obtain ⟨c0, c1, c2, c3, c4, c5, c6, c7, c8, c9, c10, c11, c12, c13, c14, c15, c16, c17⟩ := HB.out w1 K1.out
  go_wp2_with fail
  refine (BT.out _ (K00.out.trans (by first | with_reducible exact K1.out | with_reducible exact K1.out.trans (Kp.alloc _ _) | with_reducible exact (K1.out.trans (Kp.alloc _ _)).trans (Kp.alloc _ _) | with_reducible exact ((K1.out.trans (Kp.alloc _ _)).trans (Kp.alloc _ _)).trans (Kp.alloc _ _) | with_reducible exact K1.out.trans (Kp.drew _) | with_reducible exact K1.out.trans (Kp.drewN _ _)))).mono ?_
  rintro e w2 ⟨s, rfl, hs2, kk⟩
  have K2 := Lib.hid ((show Kp W0 _ from (by first | with_reducible exact K1.out | with_reducible exact K1.out.trans (Kp.alloc _ _) | with_reducible exact (K1.out.trans (Kp.alloc _ _)).trans (Kp.alloc _ _) | with_reducible exact ((K1.out.trans (Kp.alloc _ _)).trans (Kp.alloc _ _)).trans (Kp.alloc _ _) | with_reducible exact K1.out.trans (Kp.drew _) | with_reducible exact K1.out.trans (Kp.drewN _ _))).trans kk)
  have NS2 := Lib.hid hs2
  obtain ⟨ads, cps, rfl⟩ := hs2.slice
  clear kk hs2
  clear c0 c1 c2 c3 c4 c5 c6 c7 c8 c9 c10 c11 c12 c13 c14 c15 c16 c17
  obtain ⟨c0, c1, c2, c3, c4, c5, c6, c7, c8, c9, c10, c11, c12, c13, c14, c15, c16, c17⟩ := HB.out w2 K2.out
  obtain ⟨w3, hV⟩ : ∃ x, x = w2.alloc (.cells #[.int .i64 1, .int .i64 0, .string ⟨#[]⟩, .string ⟨#[]⟩, .string ⟨#[]⟩, .bool false, .bool false, .slice ads 2 cps] 26) := ⟨_, rfl⟩
  have ka : Kp w2 w3 := by rw [hV]; exact Kp.alloc _ _
  have hgq : w3.heap[w2.heap.size]? = some (.cells #[.int .i64 1, .int .i64 0, .string ⟨#[]⟩, .string ⟨#[]⟩, .string ⟨#[]⟩, .bool false, .bool false, .slice ads 2 cps] 26 (0, 0)) := by rw [hV]; exact heap_at _ _ _ rfl
  have q0 : w3.cell? ⟨w2.heap.size, 0, none⟩ = some (.int .i64 1) := by simp [World.cell?, hgq]
  have q1 : w3.cell? ⟨w2.heap.size, 1, none⟩ = some (.int .i64 0) := by simp [World.cell?, hgq]
  have q2 : w3.cell? ⟨w2.heap.size, 2, none⟩ = some (.string ⟨#[]⟩) := by simp [World.cell?, hgq]
  have q3 : w3.cell? ⟨w2.heap.size, 3, none⟩ = some (.string ⟨#[]⟩) := by simp [World.cell?, hgq]
  have q4 : w3.cell? ⟨w2.heap.size, 4, none⟩ = some (.string ⟨#[]⟩) := by simp [World.cell?, hgq]
  have q5 : w3.cell? ⟨w2.heap.size, 5, none⟩ = some (.bool false) := by simp [World.cell?, hgq]
  have q6 : w3.cell? ⟨w2.heap.size, 6, none⟩ = some (.bool false) := by simp [World.cell?, hgq]
  have q7 : w3.cell? ⟨w2.heap.size, 7, none⟩ = some (.slice ads 2 cps) := by simp [World.cell?, hgq]
  have HB2 := Lib.hid (fun w1 (k : Kp w3 w1) => show w1.cell? ⟨w.heap.size, 0, none⟩ = some (.int .i64 kx) ∧ w1.cell? ⟨w.heap.size, 1, none⟩ = some (.int .i64 pkx) ∧ w1.cell? ⟨w.heap.size, 2, none⟩ = some (.string yx) ∧ w1.cell? ⟨w.heap.size, 3, none⟩ = some (.string mx) ∧ w1.cell? ⟨w.heap.size, 4, none⟩ = some (.string qx) ∧ w1.cell? ⟨w.heap.size, 5, none⟩ = some (.bool ax) ∧ w1.cell? ⟨w.heap.size, 6, none⟩ = some (.bool tx) ∧ w1.cell? ⟨w.heap.size, 7, none⟩ = some (.slice adx lx.length cpx) ∧ w1.cell? ⟨w.heap.size + 1, 0, none⟩ = some (.int .i64 kz) ∧ w1.cell? ⟨w.heap.size + 1, 1, none⟩ = some (.int .i64 pkz) ∧ w1.cell? ⟨w.heap.size + 1, 2, none⟩ = some (.string yz) ∧ w1.cell? ⟨w.heap.size + 1, 3, none⟩ = some (.string mz) ∧ w1.cell? ⟨w.heap.size + 1, 4, none⟩ = some (.string qz) ∧ w1.cell? ⟨w.heap.size + 1, 5, none⟩ = some (.bool az) ∧ w1.cell? ⟨w.heap.size + 1, 6, none⟩ = some (.bool tz) ∧ w1.cell? ⟨w.heap.size + 1, 7, none⟩ = some (.slice adz lz.length cpz) ∧ w1.cell? ⟨w.heap.size + 1 + 1, 0, none⟩ = some (.int .i64 qS) ∧ w1.cell? ⟨w.heap.size + 1 + 1, 1, none⟩ = some (.int .i64 qE) ∧ w1.cell? ⟨w2.heap.size, 0, none⟩ = some (.int .i64 1) ∧ w1.cell? ⟨w2.heap.size, 1, none⟩ = some (.int .i64 0) ∧ w1.cell? ⟨w2.heap.size, 2, none⟩ = some (.string ⟨#[]⟩) ∧ w1.cell? ⟨w2.heap.size, 3, none⟩ = some (.string ⟨#[]⟩) ∧ w1.cell? ⟨w2.heap.size, 4, none⟩ = some (.string ⟨#[]⟩) ∧ w1.cell? ⟨w2.heap.size, 5, none⟩ = some (.bool false) ∧ w1.cell? ⟨w2.heap.size, 6, none⟩ = some (.bool false) ∧ w1.cell? ⟨w2.heap.size, 7, none⟩ = some (.slice ads 2 cps) from ⟨(HB.out w1 (K2.out.trans (ka.trans k))).1, (HB.out w1 (K2.out.trans (ka.trans k))).2.1, (HB.out w1 (K2.out.trans (ka.trans k))).2.2.1, (HB.out w1 (K2.out.trans (ka.trans k))).2.2.2.1, (HB.out w1 (K2.out.trans (ka.trans k))).2.2.2.2.1, (HB.out w1 (K2.out.trans (ka.trans k))).2.2.2.2.2.1, (HB.out w1 (K2.out.trans (ka.trans k))).2.2.2.2.2.2.1, (HB.out w1 (K2.out.trans (ka.trans k))).2.2.2.2.2.2.2.1, (HB.out w1 (K2.out.trans (ka.trans k))).2.2.2.2.2.2.2.2.1, (HB.out w1 (K2.out.trans (ka.trans k))).2.2.2.2.2.2.2.2.2.1, (HB.out w1 (K2.out.trans (ka.trans k))).2.2.2.2.2.2.2.2.2.2.1, (HB.out w1 (K2.out.trans (ka.trans k))).2.2.2.2.2.2.2.2.2.2.2.1, (HB.out w1 (K2.out.trans (ka.trans k))).2.2.2.2.2.2.2.2.2.2.2.2.1, (HB.out w1 (K2.out.trans (ka.trans k))).2.2.2.2.2.2.2.2.2.2.2.2.2.1, (HB.out w1 (K2.out.trans (ka.trans k))).2.2.2.2.2.2.2.2.2.2.2.2.2.2.1, (HB.out w1 (K2.out.trans (ka.trans k))).2.2.2.2.2.2.2.2.2.2.2.2.2.2.2.1, (HB.out w1 (K2.out.trans (ka.trans k))).2.2.2.2.2.2.2.2.2.2.2.2.2.2.2.2.1, (HB.out w1 (K2.out.trans (ka.trans k))).2.2.2.2.2.2.2.2.2.2.2.2.2.2.2.2.2, cell_up k q0, cell_up k q1, cell_up k q2, cell_up k q3, cell_up k q4, cell_up k q5, cell_up k q6, cell_up k q7⟩)
  have K01 := Lib.hid (K00.out.trans (K2.out.trans ka))
  have NS3 := Lib.hid (NS2.out.kp ka)
  clear HB K00 hgq c0 c1 c2 c3 c4 c5 c6 c7 c8 c9 c10 c11 c12 c13 c14 c15 c16 c17 q0 q1 q2 q3 q4 q5 q6 q7
  have HB := HB2
  have K00 := K01
  clear HB2 K01
  have K3 := Lib.hid (Kp.refl w3)
  have Hw3 := Lib.hid hV
  clear hV ka
  go_wp2_with fail
  rw [← Hw3.out]
  obtain ⟨c0, c1, c2, c3, c4, c5, c6, c7, c8, c9, c10, c11, c12, c13, c14, c15, c16, c17, c18, c19, c20, c21, c22, c23, c24, c25⟩ := HB.out w3 (Kp.refl _)
  go_wp2_with fail
  refine (SM.out _ _ (NS3.out.kp (by first | with_reducible exact Kp.refl _ | with_reducible exact Kp.alloc _ _ | with_reducible exact (Kp.alloc _ _).trans (Kp.alloc _ _) | with_reducible exact ((Kp.alloc _ _).trans (Kp.alloc _ _)).trans (Kp.alloc _ _) | with_reducible exact Kp.drew _ | with_reducible exact Kp.drewN _ _))).mono ?_
  rintro e w4 ⟨⟨b, hb, rfl⟩, kk⟩
  have K4 := Lib.hid ((show Kp w3 _ from (by first | with_reducible exact K3.out | with_reducible exact K3.out.trans (Kp.alloc _ _) | with_reducible exact (K3.out.trans (Kp.alloc _ _)).trans (Kp.alloc _ _) | with_reducible exact ((K3.out.trans (Kp.alloc _ _)).trans (Kp.alloc _ _)).trans (Kp.alloc _ _) | with_reducible exact K3.out.trans (Kp.drew _) | with_reducible exact K3.out.trans (Kp.drewN _ _))).trans kk)
  clear kk c0 c1 c2 c3 c4 c5 c6 c7 c8 c9 c10 c11 c12 c13 c14 c15 c16 c17 c18 c19 c20 c21 c22 c23 c24 c25
  obtain ⟨c0, c1, c2, c3, c4, c5, c6, c7, c8, c9, c10, c11, c12, c13, c14, c15, c16, c17, c18, c19, c20, c21, c22, c23, c24, c25⟩ := HB.out w4 K4.out
  rcases hb with rfl | rfl
  rotate_left
  · go_wp2
    go_ret
    exact ⟨rfl, K00.out.trans K4.out⟩
  go_wp2_with fail
  refine (SN.out _ _ (NS3.out.kp (by first | with_reducible exact K4.out | with_reducible exact K4.out.trans (Kp.alloc _ _) | with_reducible exact (K4.out.trans (Kp.alloc _ _)).trans (Kp.alloc _ _) | with_reducible exact ((K4.out.trans (Kp.alloc _ _)).trans (Kp.alloc _ _)).trans (Kp.alloc _ _) | with_reducible exact K4.out.trans (Kp.drew _) | with_reducible exact K4.out.trans (Kp.drewN _ _))) (K00.out.trans (by first | with_reducible exact K4.out | with_reducible exact K4.out.trans (Kp.alloc _ _) | with_reducible exact (K4.out.trans (Kp.alloc _ _)).trans (Kp.alloc _ _) | with_reducible exact ((K4.out.trans (Kp.alloc _ _)).trans (Kp.alloc _ _)).trans (Kp.alloc _ _) | with_reducible exact K4.out.trans (Kp.drew _) | with_reducible exact K4.out.trans (Kp.drewN _ _)))).mono ?_
  rintro e w5 ⟨rfl, kk⟩
  have K5 := Lib.hid ((show Kp w3 _ from (by first | with_reducible exact K4.out | with_reducible exact K4.out.trans (Kp.alloc _ _) | with_reducible exact (K4.out.trans (Kp.alloc _ _)).trans (Kp.alloc _ _) | with_reducible exact ((K4.out.trans (Kp.alloc _ _)).trans (Kp.alloc _ _)).trans (Kp.alloc _ _) | with_reducible exact K4.out.trans (Kp.drew _) | with_reducible exact K4.out.trans (Kp.drewN _ _))).trans kk)
  clear kk
  clear c0 c1 c2 c3 c4 c5 c6 c7 c8 c9 c10 c11 c12 c13 c14 c15 c16 c17 c18 c19 c20 c21 c22 c23 c24 c25
  obtain ⟨c0, c1, c2, c3, c4, c5, c6, c7, c8, c9, c10, c11, c12, c13, c14, c15, c16, c17, c18, c19, c20, c21, c22, c23, c24, c25⟩ := HB.out w5 K5.out
  go_wp2_with fail
  refine (OF.out _ _ (NS3.out.kp (by first | with_reducible exact K5.out | with_reducible exact K5.out.trans (Kp.alloc _ _) | with_reducible exact (K5.out.trans (Kp.alloc _ _)).trans (Kp.alloc _ _) | with_reducible exact ((K5.out.trans (Kp.alloc _ _)).trans (Kp.alloc _ _)).trans (Kp.alloc _ _) | with_reducible exact K5.out.trans (Kp.drew _) | with_reducible exact K5.out.trans (Kp.drewN _ _))) (K00.out.trans (by first | with_reducible exact K5.out | with_reducible exact K5.out.trans (Kp.alloc _ _) | with_reducible exact (K5.out.trans (Kp.alloc _ _)).trans (Kp.alloc _ _) | with_reducible exact ((K5.out.trans (Kp.alloc _ _)).trans (Kp.alloc _ _)).trans (Kp.alloc _ _) | with_reducible exact K5.out.trans (Kp.drew _) | with_reducible exact K5.out.trans (Kp.drewN _ _)))).mono ?_
  rintro e w6 ⟨v7, rfl, h7, kk⟩
  have K6 := Lib.hid ((show Kp w3 _ from (by first | with_reducible exact K5.out | with_reducible exact K5.out.trans (Kp.alloc _ _) | with_reducible exact (K5.out.trans (Kp.alloc _ _)).trans (Kp.alloc _ _) | with_reducible exact ((K5.out.trans (Kp.alloc _ _)).trans (Kp.alloc _ _)).trans (Kp.alloc _ _) | with_reducible exact K5.out.trans (Kp.drew _) | with_reducible exact K5.out.trans (Kp.drewN _ _))).trans kk)
  obtain ⟨ad7, cp7, rfl⟩ := h7.slice
  clear kk h7
  clear c0 c1 c2 c3 c4 c5 c6 c7 c8 c9 c10 c11 c12 c13 c14 c15 c16 c17 c18 c19 c20 c21 c22 c23 c24 c25
  obtain ⟨c0, c1, c2, c3, c4, c5, c6, c7, c8, c9, c10, c11, c12, c13, c14, c15, c16, c17, c18, c19, c20, c21, c22, c23, c24, c25⟩ := HB.out w6 K6.out
  go_wp2
  go_ret
  exact ⟨rfl, K00.out.trans K6.out⟩
set_option maxHeartbeats 16000000 in
set_option maxRecDepth 100000 in
theorem dspan_y1 (x : ND) (ux : Value) (z : ND) (uz : Value) (qS qE : Int) (w : World) (hx : NodesAt w ux x.l) (hz : NodesAt w uz z.l) (hq1 : -9223372036854775808 ≤ qS) (hq2 : qS ≤ 9223372036854775807) (hq3 : -9223372036854775808 ≤ qE) (hq4 : qE ≤ 9223372036854775807) (T : Tabs8 w) (hs : saneN saneP (.mk 1 e15 false false [x, z] : ND) = true) (hE : ofE (.mk 1 e15 false false [x, z] : ND) = 0) (hS : ofS (.mk 1 e15 false false [x, z] : ND) = [⟨true, 0, staS x, endS z⟩]) (ex : endN saneP x = true) (ez : endN saneP z = true) (hsx : siE x = 0) (hsz : siE z = 0) (hb1 : decide (qS ≤ qE) = false) :
    Calls Tryz.prog 6 #[ndV x ux, ndV z uz, .agg #[.int .i64 qS, .int .i64 qE]] w fun e w' => e = .returned (.bool true) ∧ Kp w w' := by
  have AW := Lib.hid (fun w1 (kk : Kp w w1) => awake15 w1 (T.kp kk))
  have BT := Lib.hid (fun w1 (kk : Kp w w1) => between_any x z ux uz w1 (hx.kp kk) (hz.kp kk))
  have SM := Lib.hid (fun s w1 (h : NodesAt w1 s [x, z]) => small_any (.mk 1 e15 false false [x, z] : ND) s w1 h)
  have SN := Lib.hid (fun s w1 (h : NodesAt w1 s [x, z]) (kk : Kp w w1) => tSaneG_any (.mk 1 e15 false false [x, z] : ND) s w1 h (T.kp kk).2.1)
  have OF := Lib.hid (fun s w1 (h : NodesAt w1 s [x, z]) (kk : Kp w w1) => dnOf_any (.mk 1 e15 false false [x, z] : ND) s w1 h (T.kp kk))
  rw [hE, hS] at OF
  rw [hs] at SN
  have STX := Lib.hid (fun w1 (kk : Kp w w1) => stands_f x ux qS w1 hx.slice hq1 hq2 ex hsx (T.kp kk))
  have STZ := Lib.hid (fun w1 (kk : Kp w w1) => stands_t z uz qE w1 hz.slice hq3 hq4 ez hsz (T.kp kk))
  have HC := Lib.hid (fun v w1 (hv : LeavesAt w1 v [⟨true, 0, staS x, endS z⟩]) (kk : Kp w w1) => by
    have c := denHas_any v _ qS qE w1 hv (ok_span (sta_set hsx) (end_set hsz)) (T.kp kk).1 hq1 hq2 hq3 hq4
    rw [span_has (sta_set hsx).1 (end_set hsz).1] at c
    exact c)
  generalize hasB (staS x) qS = b2 at *
  generalize hasB (endS z) qE = b3 at *
  generalize staS x = SA at *
  generalize endS z = SB at *
  rw [hb1] at HC
  simp only [Bool.false_and, Bool.true_and] at HC
  clear hs hE hS ex ez hsx hsz T
  obtain ⟨adx, cpx, rfl⟩ := hx.slice
  obtain ⟨kx, pkx, yx, mx, qx, ax, tx, lx, rfl⟩ := nd_dest x
  obtain ⟨adz, cpz, rfl⟩ := hz.slice
  obtain ⟨kz, pkz, yz, mz, qz, az, tz, lz, rfl⟩ := nd_dest z
  unfold e15 ndV at *
  simp only [ND.k, ND.p, ND.a, ND.t, ND.l] at *
  obtain ⟨W0, hW⟩ : ∃ W0, W0 = ((w.alloc (.cells #[.int .i64 kx, .int .i64 pkx, .string yx, .string mx, .string qx, .bool ax, .bool tx, .slice adx lx.length cpx] 26)).alloc (.cells #[.int .i64 kz, .int .i64 pkz, .string yz, .string mz, .string qz, .bool az, .bool tz, .slice adz lz.length cpz] 26)).alloc (.cells #[.int .i64 qS, .int .i64 qE] 42) := ⟨_, rfl⟩
  have K00 := Lib.hid (show Kp w W0 by rw [hW]; exact ((Kp.alloc _ _).trans (Kp.alloc _ _)).trans (Kp.alloc _ _))
  have HB := Lib.hid (fun w1 (k : Kp W0 w1) => show w1.cell? ⟨w.heap.size, 0, none⟩ = some (.int .i64 kx) ∧ w1.cell? ⟨w.heap.size, 1, none⟩ = some (.int .i64 pkx) ∧ w1.cell? ⟨w.heap.size, 2, none⟩ = some (.string yx) ∧ w1.cell? ⟨w.heap.size, 3, none⟩ = some (.string mx) ∧ w1.cell? ⟨w.heap.size, 4, none⟩ = some (.string qx) ∧ w1.cell? ⟨w.heap.size, 5, none⟩ = some (.bool ax) ∧ w1.cell? ⟨w.heap.size, 6, none⟩ = some (.bool tx) ∧ w1.cell? ⟨w.heap.size, 7, none⟩ = some (.slice adx lx.length cpx) ∧ w1.cell? ⟨w.heap.size + 1, 0, none⟩ = some (.int .i64 kz) ∧ w1.cell? ⟨w.heap.size + 1, 1, none⟩ = some (.int .i64 pkz) ∧ w1.cell? ⟨w.heap.size + 1, 2, none⟩ = some (.string yz) ∧ w1.cell? ⟨w.heap.size + 1, 3, none⟩ = some (.string mz) ∧ w1.cell? ⟨w.heap.size + 1, 4, none⟩ = some (.string qz) ∧ w1.cell? ⟨w.heap.size + 1, 5, none⟩ = some (.bool az) ∧ w1.cell? ⟨w.heap.size + 1, 6, none⟩ = some (.bool tz) ∧ w1.cell? ⟨w.heap.size + 1, 7, none⟩ = some (.slice adz lz.length cpz) ∧ w1.cell? ⟨w.heap.size + 1 + 1, 0, none⟩ = some (.int .i64 qS) ∧ w1.cell? ⟨w.heap.size + 1 + 1, 1, none⟩ = some (.int .i64 qE) from ⟨cell_up k (show W0.cell? ⟨w.heap.size, 0, none⟩ = some (.int .i64 kx) by rw [hW]; go_simp), cell_up k (show W0.cell? ⟨w.heap.size, 1, none⟩ = some (.int .i64 pkx) by rw [hW]; go_simp), cell_up k (show W0.cell? ⟨w.heap.size, 2, none⟩ = some (.string yx) by rw [hW]; go_simp), cell_up k (show W0.cell? ⟨w.heap.size, 3, none⟩ = some (.string mx) by rw [hW]; go_simp), cell_up k (show W0.cell? ⟨w.heap.size, 4, none⟩ = some (.string qx) by rw [hW]; go_simp), cell_up k (show W0.cell? ⟨w.heap.size, 5, none⟩ = some (.bool ax) by rw [hW]; go_simp), cell_up k (show W0.cell? ⟨w.heap.size, 6, none⟩ = some (.bool tx) by rw [hW]; go_simp), cell_up k (show W0.cell? ⟨w.heap.size, 7, none⟩ = some (.slice adx lx.length cpx) by rw [hW]; go_simp), cell_up k (show W0.cell? ⟨w.heap.size + 1, 0, none⟩ = some (.int .i64 kz) by rw [hW]; go_simp), cell_up k (show W0.cell? ⟨w.heap.size + 1, 1, none⟩ = some (.int .i64 pkz) by rw [hW]; go_simp), cell_up k (show W0.cell? ⟨w.heap.size + 1, 2, none⟩ = some (.string yz) by rw [hW]; go_simp), cell_up k (show W0.cell? ⟨w.heap.size + 1, 3, none⟩ = some (.string mz) by rw [hW]; go_simp), cell_up k (show W0.cell? ⟨w.heap.size + 1, 4, none⟩ = some (.string qz) by rw [hW]; go_simp), cell_up k (show W0.cell? ⟨w.heap.size + 1, 5, none⟩ = some (.bool az) by rw [hW]; go_simp), cell_up k (show W0.cell? ⟨w.heap.size + 1, 6, none⟩ = some (.bool tz) by rw [hW]; go_simp), cell_up k (show W0.cell? ⟨w.heap.size + 1, 7, none⟩ = some (.slice adz lz.length cpz) by rw [hW]; go_simp), cell_up k (show W0.cell? ⟨w.heap.size + 1 + 1, 0, none⟩ = some (.int .i64 qS) by rw [hW]; go_simp), cell_up k (show W0.cell? ⟨w.heap.size + 1 + 1, 1, none⟩ = some (.int .i64 qE) by rw [hW]; go_simp)⟩)
  obtain ⟨c0, c1, c2, c3, c4, c5, c6, c7, c8, c9, c10, c11, c12, c13, c14, c15, c16, c17⟩ := HB.out W0 (Kp.refl _)
  have K0 := Lib.hid (Kp.refl W0)
  have HW := Lib.hid hW
  clear hW
  go_enter Tryz.func6, Tryz.ntmps6
  go_wp2_with fail
  rw [← HW.out]
  refine (AW.out _ (K00.out.trans (by first | with_reducible exact K0.out | with_reducible exact K0.out.trans (Kp.alloc _ _) | with_reducible exact (K0.out.trans (Kp.alloc _ _)).trans (Kp.alloc _ _) | with_reducible exact ((K0.out.trans (Kp.alloc _ _)).trans (Kp.alloc _ _)).trans (Kp.alloc _ _) | with_reducible exact K0.out.trans (Kp.drew _) | with_reducible exact K0.out.trans (Kp.drewN _ _)))).mono ?_
  rintro e w1 ⟨rfl, kk⟩
  have K1 := Lib.hid ((show Kp W0 _ from (by first | with_reducible exact K0.out | with_reducible exact K0.out.trans (Kp.alloc _ _) | with_reducible exact (K0.out.trans (Kp.alloc _ _)).trans (Kp.alloc _ _) | with_reducible exact ((K0.out.trans (Kp.alloc _ _)).trans (Kp.alloc _ _)).trans (Kp.alloc _ _) | with_reducible exact K0.out.trans (Kp.drew _) | with_reducible exact K0.out.trans (Kp.drewN _ _))).trans kk)
  clear kk
  clear c0 c1 c2 c3 c4 c5 c6 c7 c8 c9 c10 c11 c12 c13 c14 c15 c16 c17
  obtain ⟨c0, c1, c2, c3, c4, c5, c6, c7, c8, c9, c10, c11, c12, c13, c14, c15, c16, c17⟩ := HB.out w1 K1.out
  go_wp2_with fail
  refine (BT.out _ (K00.out.trans (by first | with_reducible exact K1.out | with_reducible exact K1.out.trans (Kp.alloc _ _) | with_reducible exact (K1.out.trans (Kp.alloc _ _)).trans (Kp.alloc _ _) | with_reducible exact ((K1.out.trans (Kp.alloc _ _)).trans (Kp.alloc _ _)).trans (Kp.alloc _ _) | with_reducible exact K1.out.trans (Kp.drew _) | with_reducible exact K1.out.trans (Kp.drewN _ _)))).mono ?_
  rintro e w2 ⟨s, rfl, hs2, kk⟩
  have K2 := Lib.hid ((show Kp W0 _ from (by first | with_reducible exact K1.out | with_reducible exact K1.out.trans (Kp.alloc _ _) | with_reducible exact (K1.out.trans (Kp.alloc _ _)).trans (Kp.alloc _ _) | with_reducible exact ((K1.out.trans (Kp.alloc _ _)).trans (Kp.alloc _ _)).trans (Kp.alloc _ _) | with_reducible exact K1.out.trans (Kp.drew _) | with_reducible exact K1.out.trans (Kp.drewN _ _))).trans kk)
  have NS2 := Lib.hid hs2
  obtain ⟨ads, cps, rfl⟩ := hs2.slice
  clear kk hs2
  clear c0 c1 c2 c3 c4 c5 c6 c7 c8 c9 c10 c11 c12 c13 c14 c15 c16 c17
  obtain ⟨c0, c1, c2, c3, c4, c5, c6, c7, c8, c9, c10, c11, c12, c13, c14, c15, c16, c17⟩ := HB.out w2 K2.out
  obtain ⟨w3, hV⟩ : ∃ x, x = w2.alloc (.cells #[.int .i64 1, .int .i64 0, .string ⟨#[]⟩, .string ⟨#[]⟩, .string ⟨#[]⟩, .bool false, .bool false, .slice ads 2 cps] 26) := ⟨_, rfl⟩
  have ka : Kp w2 w3 := by rw [hV]; exact Kp.alloc _ _
  have hgq : w3.heap[w2.heap.size]? = some (.cells #[.int .i64 1, .int .i64 0, .string ⟨#[]⟩, .string ⟨#[]⟩, .string ⟨#[]⟩, .bool false, .bool false, .slice ads 2 cps] 26 (0, 0)) := by rw [hV]; exact heap_at _ _ _ rfl
  have q0 : w3.cell? ⟨w2.heap.size, 0, none⟩ = some (.int .i64 1) := by simp [World.cell?, hgq]
  have q1 : w3.cell? ⟨w2.heap.size, 1, none⟩ = some (.int .i64 0) := by simp [World.cell?, hgq]
  have q2 : w3.cell? ⟨w2.heap.size, 2, none⟩ = some (.string ⟨#[]⟩) := by simp [World.cell?, hgq]
  have q3 : w3.cell? ⟨w2.heap.size, 3, none⟩ = some (.string ⟨#[]⟩) := by simp [World.cell?, hgq]
  have q4 : w3.cell? ⟨w2.heap.size, 4, none⟩ = some (.string ⟨#[]⟩) := by simp [World.cell?, hgq]
  have q5 : w3.cell? ⟨w2.heap.size, 5, none⟩ = some (.bool false) := by simp [World.cell?, hgq]
  have q6 : w3.cell? ⟨w2.heap.size, 6, none⟩ = some (.bool false) := by simp [World.cell?, hgq]
  have q7 : w3.cell? ⟨w2.heap.size, 7, none⟩ = some (.slice ads 2 cps) := by simp [World.cell?, hgq]
  have HB2 := Lib.hid (fun w1 (k : Kp w3 w1) => show w1.cell? ⟨w.heap.size, 0, none⟩ = some (.int .i64 kx) ∧ w1.cell? ⟨w.heap.size, 1, none⟩ = some (.int .i64 pkx) ∧ w1.cell? ⟨w.heap.size, 2, none⟩ = some (.string yx) ∧ w1.cell? ⟨w.heap.size, 3, none⟩ = some (.string mx) ∧ w1.cell? ⟨w.heap.size, 4, none⟩ = some (.string qx) ∧ w1.cell? ⟨w.heap.size, 5, none⟩ = some (.bool ax) ∧ w1.cell? ⟨w.heap.size, 6, none⟩ = some (.bool tx) ∧ w1.cell? ⟨w.heap.size, 7, none⟩ = some (.slice adx lx.length cpx) ∧ w1.cell? ⟨w.heap.size + 1, 0, none⟩ = some (.int .i64 kz) ∧ w1.cell? ⟨w.heap.size + 1, 1, none⟩ = some (.int .i64 pkz) ∧ w1.cell? ⟨w.heap.size + 1, 2, none⟩ = some (.string yz) ∧ w1.cell? ⟨w.heap.size + 1, 3, none⟩ = some (.string mz) ∧ w1.cell? ⟨w.heap.size + 1, 4, none⟩ = some (.string qz) ∧ w1.cell? ⟨w.heap.size + 1, 5, none⟩ = some (.bool az) ∧ w1.cell? ⟨w.heap.size + 1, 6, none⟩ = some (.bool tz) ∧ w1.cell? ⟨w.heap.size + 1, 7, none⟩ = some (.slice adz lz.length cpz) ∧ w1.cell? ⟨w.heap.size + 1 + 1, 0, none⟩ = some (.int .i64 qS) ∧ w1.cell? ⟨w.heap.size + 1 + 1, 1, none⟩ = some (.int .i64 qE) ∧ w1.cell? ⟨w2.heap.size, 0, none⟩ = some (.int .i64 1) ∧ w1.cell? ⟨w2.heap.size, 1, none⟩ = some (.int .i64 0) ∧ w1.cell? ⟨w2.heap.size, 2, none⟩ = some (.string ⟨#[]⟩) ∧ w1.cell? ⟨w2.heap.size, 3, none⟩ = some (.string ⟨#[]⟩) ∧ w1.cell? ⟨w2.heap.size, 4, none⟩ = some (.string ⟨#[]⟩) ∧ w1.cell? ⟨w2.heap.size, 5, none⟩ = some (.bool false) ∧ w1.cell? ⟨w2.heap.size, 6, none⟩ = some (.bool false) ∧ w1.cell? ⟨w2.heap.size, 7, none⟩ = some (.slice ads 2 cps) from ⟨(HB.out w1 (K2.out.trans (ka.trans k))).1, (HB.out w1 (K2.out.trans (ka.trans k))).2.1, (HB.out w1 (K2.out.trans (ka.trans k))).2.2.1, (HB.out w1 (K2.out.trans (ka.trans k))).2.2.2.1, (HB.out w1 (K2.out.trans (ka.trans k))).2.2.2.2.1, (HB.out w1 (K2.out.trans (ka.trans k))).2.2.2.2.2.1, (HB.out w1 (K2.out.trans (ka.trans k))).2.2.2.2.2.2.1, (HB.out w1 (K2.out.trans (ka.trans k))).2.2.2.2.2.2.2.1, (HB.out w1 (K2.out.trans (ka.trans k))).2.2.2.2.2.2.2.2.1, (HB.out w1 (K2.out.trans (ka.trans k))).2.2.2.2.2.2.2.2.2.1, (HB.out w1 (K2.out.trans (ka.trans k))).2.2.2.2.2.2.2.2.2.2.1, (HB.out w1 (K2.out.trans (ka.trans k))).2.2.2.2.2.2.2.2.2.2.2.1, (HB.out w1 (K2.out.trans (ka.trans k))).2.2.2.2.2.2.2.2.2.2.2.2.1, (HB.out w1 (K2.out.trans (ka.trans k))).2.2.2.2.2.2.2.2.2.2.2.2.2.1, (HB.out w1 (K2.out.trans (ka.trans k))).2.2.2.2.2.2.2.2.2.2.2.2.2.2.1, (HB.out w1 (K2.out.trans (ka.trans k))).2.2.2.2.2.2.2.2.2.2.2.2.2.2.2.1, (HB.out w1 (K2.out.trans (ka.trans k))).2.2.2.2.2.2.2.2.2.2.2.2.2.2.2.2.1, (HB.out w1 (K2.out.trans (ka.trans k))).2.2.2.2.2.2.2.2.2.2.2.2.2.2.2.2.2, cell_up k q0, cell_up k q1, cell_up k q2, cell_up k q3, cell_up k q4, cell_up k q5, cell_up k q6, cell_up k q7⟩)
  have K01 := Lib.hid (K00.out.trans (K2.out.trans ka))
  have NS3 := Lib.hid (NS2.out.kp ka)
  clear HB K00 hgq c0 c1 c2 c3 c4 c5 c6 c7 c8 c9 c10 c11 c12 c13 c14 c15 c16 c17 q0 q1 q2 q3 q4 q5 q6 q7
  have HB := HB2
  have K00 := K01
  clear HB2 K01
  have K3 := Lib.hid (Kp.refl w3)
  have Hw3 := Lib.hid hV
  clear hV ka
  go_wp2_with fail
  rw [← Hw3.out]
  obtain ⟨c0, c1, c2, c3, c4, c5, c6, c7, c8, c9, c10, c11, c12, c13, c14, c15, c16, c17, c18, c19, c20, c21, c22, c23, c24, c25⟩ := HB.out w3 (Kp.refl _)
  go_wp2_with fail
  refine (SM.out _ _ (NS3.out.kp (by first | with_reducible exact Kp.refl _ | with_reducible exact Kp.alloc _ _ | with_reducible exact (Kp.alloc _ _).trans (Kp.alloc _ _) | with_reducible exact ((Kp.alloc _ _).trans (Kp.alloc _ _)).trans (Kp.alloc _ _) | with_reducible exact Kp.drew _ | with_reducible exact Kp.drewN _ _))).mono ?_
  rintro e w4 ⟨⟨b, hb, rfl⟩, kk⟩
  have K4 := Lib.hid ((show Kp w3 _ from (by first | with_reducible exact K3.out | with_reducible exact K3.out.trans (Kp.alloc _ _) | with_reducible exact (K3.out.trans (Kp.alloc _ _)).trans (Kp.alloc _ _) | with_reducible exact ((K3.out.trans (Kp.alloc _ _)).trans (Kp.alloc _ _)).trans (Kp.alloc _ _) | with_reducible exact K3.out.trans (Kp.drew _) | with_reducible exact K3.out.trans (Kp.drewN _ _))).trans kk)
  clear kk c0 c1 c2 c3 c4 c5 c6 c7 c8 c9 c10 c11 c12 c13 c14 c15 c16 c17 c18 c19 c20 c21 c22 c23 c24 c25
  obtain ⟨c0, c1, c2, c3, c4, c5, c6, c7, c8, c9, c10, c11, c12, c13, c14, c15, c16, c17, c18, c19, c20, c21, c22, c23, c24, c25⟩ := HB.out w4 K4.out
  rcases hb with rfl | rfl
  rotate_left
  · go_wp2
    go_ret
    exact ⟨rfl, K00.out.trans K4.out⟩
  go_wp2_with fail
  refine (SN.out _ _ (NS3.out.kp (by first | with_reducible exact K4.out | with_reducible exact K4.out.trans (Kp.alloc _ _) | with_reducible exact (K4.out.trans (Kp.alloc _ _)).trans (Kp.alloc _ _) | with_reducible exact ((K4.out.trans (Kp.alloc _ _)).trans (Kp.alloc _ _)).trans (Kp.alloc _ _) | with_reducible exact K4.out.trans (Kp.drew _) | with_reducible exact K4.out.trans (Kp.drewN _ _))) (K00.out.trans (by first | with_reducible exact K4.out | with_reducible exact K4.out.trans (Kp.alloc _ _) | with_reducible exact (K4.out.trans (Kp.alloc _ _)).trans (Kp.alloc _ _) | with_reducible exact ((K4.out.trans (Kp.alloc _ _)).trans (Kp.alloc _ _)).trans (Kp.alloc _ _) | with_reducible exact K4.out.trans (Kp.drew _) | with_reducible exact K4.out.trans (Kp.drewN _ _)))).mono ?_
  rintro e w5 ⟨rfl, kk⟩
  have K5 := Lib.hid ((show Kp w3 _ from (by first | with_reducible exact K4.out | with_reducible exact K4.out.trans (Kp.alloc _ _) | with_reducible exact (K4.out.trans (Kp.alloc _ _)).trans (Kp.alloc _ _) | with_reducible exact ((K4.out.trans (Kp.alloc _ _)).trans (Kp.alloc _ _)).trans (Kp.alloc _ _) | with_reducible exact K4.out.trans (Kp.drew _) | with_reducible exact K4.out.trans (Kp.drewN _ _))).trans kk)
  clear kk
  clear c0 c1 c2 c3 c4 c5 c6 c7 c8 c9 c10 c11 c12 c13 c14 c15 c16 c17 c18 c19 c20 c21 c22 c23 c24 c25
  obtain ⟨c0, c1, c2, c3, c4, c5, c6, c7, c8, c9, c10, c11, c12, c13, c14, c15, c16, c17, c18, c19, c20, c21, c22, c23, c24, c25⟩ := HB.out w5 K5.out
  go_wp2_with fail
  refine (OF.out _ _ (NS3.out.kp (by first | with_reducible exact K5.out | with_reducible exact K5.out.trans (Kp.alloc _ _) | with_reducible exact (K5.out.trans (Kp.alloc _ _)).trans (Kp.alloc _ _) | with_reducible exact ((K5.out.trans (Kp.alloc _ _)).trans (Kp.alloc _ _)).trans (Kp.alloc _ _) | with_reducible exact K5.out.trans (Kp.drew _) | with_reducible exact K5.out.trans (Kp.drewN _ _))) (K00.out.trans (by first | with_reducible exact K5.out | with_reducible exact K5.out.trans (Kp.alloc _ _) | with_reducible exact (K5.out.trans (Kp.alloc _ _)).trans (Kp.alloc _ _) | with_reducible exact ((K5.out.trans (Kp.alloc _ _)).trans (Kp.alloc _ _)).trans (Kp.alloc _ _) | with_reducible exact K5.out.trans (Kp.drew _) | with_reducible exact K5.out.trans (Kp.drewN _ _)))).mono ?_
  rintro e w6 ⟨v7, rfl, h7, kk⟩
  have K6 := Lib.hid ((show Kp w3 _ from (by first | with_reducible exact K5.out | with_reducible exact K5.out.trans (Kp.alloc _ _) | with_reducible exact (K5.out.trans (Kp.alloc _ _)).trans (Kp.alloc _ _) | with_reducible exact ((K5.out.trans (Kp.alloc _ _)).trans (Kp.alloc _ _)).trans (Kp.alloc _ _) | with_reducible exact K5.out.trans (Kp.drew _) | with_reducible exact K5.out.trans (Kp.drewN _ _))).trans kk)
  have LV := Lib.hid h7
  obtain ⟨ad7, cp7, rfl⟩ := h7.slice
  clear kk h7
  clear c0 c1 c2 c3 c4 c5 c6 c7 c8 c9 c10 c11 c12 c13 c14 c15 c16 c17 c18 c19 c20 c21 c22 c23 c24 c25
  obtain ⟨c0, c1, c2, c3, c4, c5, c6, c7, c8, c9, c10, c11, c12, c13, c14, c15, c16, c17, c18, c19, c20, c21, c22, c23, c24, c25⟩ := HB.out w6 K6.out
  have KS := Lib.hid (fun w' (kq : Kp w6 w') => show w'.cell? ⟨w.heap.size, 0, none⟩ = some (.int .i64 kx) ∧ w'.cell? ⟨w.heap.size, 1, none⟩ = some (.int .i64 pkx) ∧ w'.cell? ⟨w.heap.size, 2, none⟩ = some (.string yx) ∧ w'.cell? ⟨w.heap.size, 3, none⟩ = some (.string mx) ∧ w'.cell? ⟨w.heap.size, 4, none⟩ = some (.string qx) ∧ w'.cell? ⟨w.heap.size, 5, none⟩ = some (.bool ax) ∧ w'.cell? ⟨w.heap.size, 6, none⟩ = some (.bool tx) ∧ w'.cell? ⟨w.heap.size, 7, none⟩ = some (.slice adx lx.length cpx) ∧ w'.cell? ⟨w.heap.size + 1, 0, none⟩ = some (.int .i64 kz) ∧ w'.cell? ⟨w.heap.size + 1, 1, none⟩ = some (.int .i64 pkz) ∧ w'.cell? ⟨w.heap.size + 1, 2, none⟩ = some (.string yz) ∧ w'.cell? ⟨w.heap.size + 1, 3, none⟩ = some (.string mz) ∧ w'.cell? ⟨w.heap.size + 1, 4, none⟩ = some (.string qz) ∧ w'.cell? ⟨w.heap.size + 1, 5, none⟩ = some (.bool az) ∧ w'.cell? ⟨w.heap.size + 1, 6, none⟩ = some (.bool tz) ∧ w'.cell? ⟨w.heap.size + 1, 7, none⟩ = some (.slice adz lz.length cpz) ∧ w'.cell? ⟨w.heap.size + 1 + 1, 0, none⟩ = some (.int .i64 qS) ∧ w'.cell? ⟨w.heap.size + 1 + 1, 1, none⟩ = some (.int .i64 qE) ∧ w'.cell? ⟨w2.heap.size, 0, none⟩ = some (.int .i64 1) ∧ w'.cell? ⟨w2.heap.size, 1, none⟩ = some (.int .i64 0) ∧ w'.cell? ⟨w2.heap.size, 2, none⟩ = some (.string ⟨#[]⟩) ∧ w'.cell? ⟨w2.heap.size, 3, none⟩ = some (.string ⟨#[]⟩) ∧ w'.cell? ⟨w2.heap.size, 4, none⟩ = some (.string ⟨#[]⟩) ∧ w'.cell? ⟨w2.heap.size, 5, none⟩ = some (.bool false) ∧ w'.cell? ⟨w2.heap.size, 6, none⟩ = some (.bool false) ∧ w'.cell? ⟨w2.heap.size, 7, none⟩ = some (.slice ads 2 cps) ∧ Kp w6 w' from ⟨(HB.out w' (K6.out.trans kq)).1, (HB.out w' (K6.out.trans kq)).2.1, (HB.out w' (K6.out.trans kq)).2.2.1, (HB.out w' (K6.out.trans kq)).2.2.2.1, (HB.out w' (K6.out.trans kq)).2.2.2.2.1, (HB.out w' (K6.out.trans kq)).2.2.2.2.2.1, (HB.out w' (K6.out.trans kq)).2.2.2.2.2.2.1, (HB.out w' (K6.out.trans kq)).2.2.2.2.2.2.2.1, (HB.out w' (K6.out.trans kq)).2.2.2.2.2.2.2.2.1, (HB.out w' (K6.out.trans kq)).2.2.2.2.2.2.2.2.2.1, (HB.out w' (K6.out.trans kq)).2.2.2.2.2.2.2.2.2.2.1, (HB.out w' (K6.out.trans kq)).2.2.2.2.2.2.2.2.2.2.2.1, (HB.out w' (K6.out.trans kq)).2.2.2.2.2.2.2.2.2.2.2.2.1, (HB.out w' (K6.out.trans kq)).2.2.2.2.2.2.2.2.2.2.2.2.2.1, (HB.out w' (K6.out.trans kq)).2.2.2.2.2.2.2.2.2.2.2.2.2.2.1, (HB.out w' (K6.out.trans kq)).2.2.2.2.2.2.2.2.2.2.2.2.2.2.2.1, (HB.out w' (K6.out.trans kq)).2.2.2.2.2.2.2.2.2.2.2.2.2.2.2.2.1, (HB.out w' (K6.out.trans kq)).2.2.2.2.2.2.2.2.2.2.2.2.2.2.2.2.2.1, (HB.out w' (K6.out.trans kq)).2.2.2.2.2.2.2.2.2.2.2.2.2.2.2.2.2.2.1, (HB.out w' (K6.out.trans kq)).2.2.2.2.2.2.2.2.2.2.2.2.2.2.2.2.2.2.2.1, (HB.out w' (K6.out.trans kq)).2.2.2.2.2.2.2.2.2.2.2.2.2.2.2.2.2.2.2.2.1, (HB.out w' (K6.out.trans kq)).2.2.2.2.2.2.2.2.2.2.2.2.2.2.2.2.2.2.2.2.2.1, (HB.out w' (K6.out.trans kq)).2.2.2.2.2.2.2.2.2.2.2.2.2.2.2.2.2.2.2.2.2.2.1, (HB.out w' (K6.out.trans kq)).2.2.2.2.2.2.2.2.2.2.2.2.2.2.2.2.2.2.2.2.2.2.2.1, (HB.out w' (K6.out.trans kq)).2.2.2.2.2.2.2.2.2.2.2.2.2.2.2.2.2.2.2.2.2.2.2.2.1, (HB.out w' (K6.out.trans kq)).2.2.2.2.2.2.2.2.2.2.2.2.2.2.2.2.2.2.2.2.2.2.2.2.2, kq⟩)
  go_wp2_with fail
  refine wp_region_held_drew (S := fun w' => w'.cell? ⟨w.heap.size, 0, none⟩ = some (.int .i64 kx) ∧ w'.cell? ⟨w.heap.size, 1, none⟩ = some (.int .i64 pkx) ∧ w'.cell? ⟨w.heap.size, 2, none⟩ = some (.string yx) ∧ w'.cell? ⟨w.heap.size, 3, none⟩ = some (.string mx) ∧ w'.cell? ⟨w.heap.size, 4, none⟩ = some (.string qx) ∧ w'.cell? ⟨w.heap.size, 5, none⟩ = some (.bool ax) ∧ w'.cell? ⟨w.heap.size, 6, none⟩ = some (.bool tx) ∧ w'.cell? ⟨w.heap.size, 7, none⟩ = some (.slice adx lx.length cpx) ∧ w'.cell? ⟨w.heap.size + 1, 0, none⟩ = some (.int .i64 kz) ∧ w'.cell? ⟨w.heap.size + 1, 1, none⟩ = some (.int .i64 pkz) ∧ w'.cell? ⟨w.heap.size + 1, 2, none⟩ = some (.string yz) ∧ w'.cell? ⟨w.heap.size + 1, 3, none⟩ = some (.string mz) ∧ w'.cell? ⟨w.heap.size + 1, 4, none⟩ = some (.string qz) ∧ w'.cell? ⟨w.heap.size + 1, 5, none⟩ = some (.bool az) ∧ w'.cell? ⟨w.heap.size + 1, 6, none⟩ = some (.bool tz) ∧ w'.cell? ⟨w.heap.size + 1, 7, none⟩ = some (.slice adz lz.length cpz) ∧ w'.cell? ⟨w.heap.size + 1 + 1, 0, none⟩ = some (.int .i64 qS) ∧ w'.cell? ⟨w.heap.size + 1 + 1, 1, none⟩ = some (.int .i64 qE) ∧ w'.cell? ⟨w2.heap.size, 0, none⟩ = some (.int .i64 1) ∧ w'.cell? ⟨w2.heap.size, 1, none⟩ = some (.int .i64 0) ∧ w'.cell? ⟨w2.heap.size, 2, none⟩ = some (.string ⟨#[]⟩) ∧ w'.cell? ⟨w2.heap.size, 3, none⟩ = some (.string ⟨#[]⟩) ∧ w'.cell? ⟨w2.heap.size, 4, none⟩ = some (.string ⟨#[]⟩) ∧ w'.cell? ⟨w2.heap.size, 5, none⟩ = some (.bool false) ∧ w'.cell? ⟨w2.heap.size, 6, none⟩ = some (.bool false) ∧ w'.cell? ⟨w2.heap.size, 7, none⟩ = some (.slice ads 2 cps) ∧ Kp w6 w') (by kernel_rfl) ?_ (fun hHeld0 => ?_)
  · (try dsimp only); exact KS.out _ (by first | assumption | exact Kp.drew _)
  refine tkW (v := ?_) 0 spA0 rfl (by kernel_rfl) (by kernel_rfl) (by kernel_rfl) (fun _ _ _ h => h) (by rfl) ?_ (by assumption) ?_
  rotate_left
  · intro w hSw; (try dsimp only at hSw); go_simp; (try with_reducible rfl)
  (try simp only [Act.put, spA0, List.setIfInBounds_toArray, List.set_cons_zero, List.set_cons_succ])
  refine tkW (v := ?_) 1 spA1 rfl (by kernel_rfl) (by kernel_rfl) (by kernel_rfl) (fun _ _ _ h => h) (by rfl) ?_ (by assumption) ?_
  rotate_left
  · intro w hSw; (try dsimp only at hSw); go_simp; (try with_reducible rfl)
  (try simp only [Act.put, spA1, List.setIfInBounds_toArray, List.set_cons_zero, List.set_cons_succ])
  refine tkW (v := ?_) 2 spA2 rfl (by kernel_rfl) (by kernel_rfl) (by kernel_rfl) (fun _ _ _ h => h) (by rfl) ?_ (by assumption) ?_
  rotate_left
  · intro w hSw; (try dsimp only at hSw); go_simp; (try with_reducible rfl)
  (try simp only [Act.put, spA2, List.setIfInBounds_toArray, List.set_cons_zero, List.set_cons_succ])
  refine tkW (v := ?_) 3 spA3 rfl (by kernel_rfl) (by kernel_rfl) (by kernel_rfl) (fun _ _ _ h => h) (by rfl) ?_ (by assumption) ?_
  rotate_left
  · intro w hSw; (try dsimp only at hSw); go_simp; (try with_reducible rfl)
  (try simp only [Act.put, spA3, List.setIfInBounds_toArray, List.set_cons_zero, List.set_cons_succ])
  refine tkW (v := ?_) 4 spA4 rfl (by kernel_rfl) (by kernel_rfl) (by kernel_rfl) (fun _ _ _ h => h) (by rfl) ?_ (by assumption) ?_
  rotate_left
  · intro w hSw; (try dsimp only at hSw); go_simp; (try with_reducible rfl)
  (try simp only [Act.put, spA4, List.setIfInBounds_toArray, List.set_cons_zero, List.set_cons_succ])
  refine tkW (v := ?_) 5 spA5 rfl (by kernel_rfl) (by kernel_rfl) (by kernel_rfl) (fun _ _ _ h => h) (by rfl) ?_ (by assumption) ?_
  rotate_left
  · intro w hSw; (try dsimp only at hSw); go_simp; (try with_reducible rfl)
  (try simp only [Act.put, spA5, List.setIfInBounds_toArray, List.set_cons_zero, List.set_cons_succ])
  refine tkW (v := ?_) 6 spA6 rfl (by kernel_rfl) (by kernel_rfl) (by kernel_rfl) (fun _ _ _ h => h) (by rfl) ?_ (by assumption) ?_
  rotate_left
  · intro w hSw; (try dsimp only at hSw); go_simp; (try with_reducible rfl)
  (try simp only [Act.put, spA6, List.setIfInBounds_toArray, List.set_cons_zero, List.set_cons_succ])
  refine tkW (v := ?_) 7 spA7 rfl (by kernel_rfl) (by kernel_rfl) (by kernel_rfl) (fun _ _ _ h => h) (by rfl) ?_ (by assumption) ?_
  rotate_left
  · intro w hSw; (try dsimp only at hSw); go_simp; (try with_reducible rfl)
  (try simp only [Act.put, spA7, List.setIfInBounds_toArray, List.set_cons_zero, List.set_cons_succ])
  refine tkW (v := ?_) 8 spA8 rfl (by kernel_rfl) (by kernel_rfl) (by kernel_rfl) (fun _ _ _ h => h) (by rfl) ?_ (by assumption) ?_
  rotate_left
  · intro w hSw; (try dsimp only at hSw); go_simp; (try with_reducible rfl)
  (try simp only [Act.put, spA8, List.setIfInBounds_toArray, List.set_cons_zero, List.set_cons_succ])
  refine tkW (v := ?_) 10 spA10 rfl (by kernel_rfl) (by kernel_rfl) (by kernel_rfl) (fun _ _ _ h => h) (by rfl) ?_ (by assumption) ?_
  rotate_left
  · intro w hSw; (try dsimp only at hSw); go_simp; (try with_reducible rfl)
  (try simp only [Act.put, spA10, List.setIfInBounds_toArray, List.set_cons_zero, List.set_cons_succ])
  refine tkW (v := ?_) 11 spA11 rfl (by kernel_rfl) (by kernel_rfl) (by kernel_rfl) (fun _ _ _ h => h) (by rfl) ?_ (by assumption) ?_
  rotate_left
  · intro w hSw; (try dsimp only at hSw); go_simp; (try with_reducible rfl)
  (try simp only [Act.put, spA11, List.setIfInBounds_toArray, List.set_cons_zero, List.set_cons_succ])
  refine tkW (v := ?_) 12 spA12 rfl (by kernel_rfl) (by kernel_rfl) (by kernel_rfl) (fun _ _ _ h => h) (by rfl) ?_ (by assumption) ?_
  rotate_left
  · intro w hSw; (try dsimp only at hSw); go_simp; (try with_reducible rfl)
  (try simp only [Act.put, spA12, List.setIfInBounds_toArray, List.set_cons_zero, List.set_cons_succ])
  refine tkW (v := ?_) 13 spA13 rfl (by kernel_rfl) (by kernel_rfl) (by kernel_rfl) (fun _ _ _ h => h) (by rfl) ?_ (by assumption) ?_
  rotate_left
  · intro w hSw; (try dsimp only at hSw); go_simp; (try with_reducible rfl)
  (try simp only [Act.put, spA13, List.setIfInBounds_toArray, List.set_cons_zero, List.set_cons_succ])
  refine tkW (v := ?_) 14 spA14 rfl (by kernel_rfl) (by kernel_rfl) (by kernel_rfl) (fun _ _ _ h => h) (by rfl) ?_ (by assumption) ?_
  rotate_left
  · intro w hSw; (try dsimp only at hSw); go_simp; (try with_reducible rfl)
  (try simp only [Act.put, spA14, List.setIfInBounds_toArray, List.set_cons_zero, List.set_cons_succ])
  refine tkE 9 spA9 rfl (by kernel_rfl) (fun K hK => ?_)
  go_simp
  (refine (HC.out _ _ (LV.out.kp (by first | assumption | exact Kp.drew _)) (K00.out.trans (K6.out.trans (by first | assumption | exact Kp.drew _)))).mono ?_; rintro e wa ⟨rfl, k1⟩; have k2 := Kp.trans (show Kp w6 _ from (by first | assumption | exact Kp.drew _)) k1; clear k1)
  (try go_wp2_with fail)
  refine hK.out _ _ ?_ (fun hHeld1 => ?_)
  · (try dsimp only); exact KS.out _ (by first | assumption | exact Kp.drew _)
  clear hK K hHeld0
  (try simp only [Act.put, spA9, List.setIfInBounds_toArray, List.set_cons_zero, List.set_cons_succ])
  refine tkW (v := ?_) 15 spA15 rfl (by kernel_rfl) (by kernel_rfl) (by kernel_rfl) (fun _ _ _ h => h) (by rfl) ?_ (by assumption) ?_
  rotate_left
  · intro w hSw; (try dsimp only at hSw); go_simp; (try with_reducible rfl)
  (try simp only [Act.put, spA15, List.setIfInBounds_toArray, List.set_cons_zero, List.set_cons_succ])
  refine tkU 16 spA16 rfl (by kernel_rfl) (by kernel_rfl) (by kernel_rfl) (fun _ _ _ h => h) (by rfl) (by assumption) ?_
  (try simp only [Act.put, spA16, List.setIfInBounds_toArray, List.set_cons_zero, List.set_cons_succ])
  refine tkU 17 spA17 rfl (by kernel_rfl) (by kernel_rfl) (by kernel_rfl) (fun _ _ _ h => h) (by rfl) (by assumption) ?_
  (try simp only [Act.put, spA17, List.setIfInBounds_toArray, List.set_cons_zero, List.set_cons_succ])
  refine tkU 18 spA18 rfl (by kernel_rfl) (by kernel_rfl) (by kernel_rfl) (fun _ _ _ h => h) (by rfl) (by assumption) ?_
  (try simp only [Act.put, spA18, List.setIfInBounds_toArray, List.set_cons_zero, List.set_cons_succ])
  refine tkU 19 spA19 rfl (by kernel_rfl) (by kernel_rfl) (by kernel_rfl) (fun _ _ _ h => h) (by rfl) (by assumption) ?_
  (try simp only [Act.put, spA19, List.setIfInBounds_toArray, List.set_cons_zero, List.set_cons_succ])
  refine tkW (v := ?_) 20 spA20 rfl (by kernel_rfl) (by kernel_rfl) (by kernel_rfl) (fun _ _ _ h => h) (by rfl) ?_ (by assumption) ?_
  rotate_left
  · intro w hSw; (try dsimp only at hSw); go_simp; (try with_reducible rfl)
  (try simp only [Act.put, spA20, List.setIfInBounds_toArray, List.set_cons_zero, List.set_cons_succ])
  refine tkW (v := ?_) 21 spA21 rfl (by kernel_rfl) (by kernel_rfl) (by kernel_rfl) (fun _ _ _ h => h) (by rfl) ?_ (by assumption) ?_
  rotate_left
  · intro w hSw; (try dsimp only at hSw); go_simp; (try with_reducible rfl)
  (try simp only [Act.put, spA21, List.setIfInBounds_toArray, List.set_cons_zero, List.set_cons_succ])
  refine tkU 22 spA22 rfl (by kernel_rfl) (by kernel_rfl) (by kernel_rfl) (fun _ _ _ h => h) (by rfl) (by assumption) ?_
  (try simp only [Act.put, spA22, List.setIfInBounds_toArray, List.set_cons_zero, List.set_cons_succ])
  refine tkU 23 spA23 rfl (by kernel_rfl) (by kernel_rfl) (by kernel_rfl) (fun _ _ _ h => h) (by rfl) (by assumption) ?_
  (try simp only [Act.put, spA23, List.setIfInBounds_toArray, List.set_cons_zero, List.set_cons_succ])
  refine tkU 24 spA24 rfl (by kernel_rfl) (by kernel_rfl) (by kernel_rfl) (fun _ _ _ h => h) (by rfl) (by assumption) ?_
  (try simp only [Act.put, spA24, List.setIfInBounds_toArray, List.set_cons_zero, List.set_cons_succ])
  refine tkU 25 spA25 rfl (by kernel_rfl) (by kernel_rfl) (by kernel_rfl) (fun _ _ _ h => h) (by rfl) (by assumption) ?_
  (try simp only [Act.put, spA25, List.setIfInBounds_toArray, List.set_cons_zero, List.set_cons_succ])
  refine tkW (v := ?_) 26 spA26 rfl (by kernel_rfl) (by kernel_rfl) (by kernel_rfl) (fun _ _ _ h => h) (by rfl) ?_ (by assumption) ?_
  rotate_left
  · intro w hSw; (try dsimp only at hSw); go_simp; (try with_reducible rfl)
  (try simp only [Act.put, spA26, List.setIfInBounds_toArray, List.set_cons_zero, List.set_cons_succ])
  refine tkW (v := ?_) 27 spA27 rfl (by kernel_rfl) (by kernel_rfl) (by kernel_rfl) (fun _ _ _ h => h) (by rfl) ?_ (by assumption) ?_
  rotate_left
  · intro w hSw; (try dsimp only at hSw); go_simp; (try with_reducible rfl)
  (try simp only [Act.put, spA27, List.setIfInBounds_toArray, List.set_cons_zero, List.set_cons_succ])
  refine tkW (v := ?_) 28 spA28 rfl (by kernel_rfl) (by kernel_rfl) (by kernel_rfl) (fun _ _ _ h => h) (by rfl) ?_ (by assumption) ?_
  rotate_left
  · intro w hSw; (try dsimp only at hSw); go_simp; (try with_reducible rfl)
  (try simp only [Act.put, spA28, List.setIfInBounds_toArray, List.set_cons_zero, List.set_cons_succ])
  refine tkW (v := ?_) 29 spA29 rfl (by kernel_rfl) (by kernel_rfl) (by kernel_rfl) (fun _ _ _ h => h) (by rfl) ?_ (by assumption) ?_
  rotate_left
  · intro w hSw; (try dsimp only at hSw); go_simp; (try with_reducible rfl)
  (try simp only [Act.put, spA29, List.setIfInBounds_toArray, List.set_cons_zero, List.set_cons_succ])
  refine wpAnyH_done (by kernel_rfl) ?_ _
  go_wp2
  go_ret
  exact ⟨rfl, K00.out.trans (K6.out.trans k2)⟩
set_option maxHeartbeats 16000000 in
set_option maxRecDepth 100000 in
theorem dspan_y2 (x : ND) (ux : Value) (z : ND) (uz : Value) (qS qE : Int) (w : World) (hx : NodesAt w ux x.l) (hz : NodesAt w uz z.l) (hq1 : -9223372036854775808 ≤ qS) (hq2 : qS ≤ 9223372036854775807) (hq3 : -9223372036854775808 ≤ qE) (hq4 : qE ≤ 9223372036854775807) (T : Tabs8 w) (hs : saneN saneP (.mk 1 e15 false false [x, z] : ND) = true) (hE : ofE (.mk 1 e15 false false [x, z] : ND) = 0) (hS : ofS (.mk 1 e15 false false [x, z] : ND) = [⟨true, 0, staS x, endS z⟩]) (ex : endN saneP x = true) (ez : endN saneP z = true) (hsx : siE x = 0) (hsz : siE z = 0) (hb1 : decide (qS ≤ qE) = true) (hb2 : hasB (staS x) qS = false) :
    Calls Tryz.prog 6 #[ndV x ux, ndV z uz, .agg #[.int .i64 qS, .int .i64 qE]] w fun e w' => e = .returned (.bool true) ∧ Kp w w' := by
  have AW := Lib.hid (fun w1 (kk : Kp w w1) => awake15 w1 (T.kp kk))
  have BT := Lib.hid (fun w1 (kk : Kp w w1) => between_any x z ux uz w1 (hx.kp kk) (hz.kp kk))
  have SM := Lib.hid (fun s w1 (h : NodesAt w1 s [x, z]) => small_any (.mk 1 e15 false false [x, z] : ND) s w1 h)
  have SN := Lib.hid (fun s w1 (h : NodesAt w1 s [x, z]) (kk : Kp w w1) => tSaneG_any (.mk 1 e15 false false [x, z] : ND) s w1 h (T.kp kk).2.1)
  have OF := Lib.hid (fun s w1 (h : NodesAt w1 s [x, z]) (kk : Kp w w1) => dnOf_any (.mk 1 e15 false false [x, z] : ND) s w1 h (T.kp kk))
  rw [hE, hS] at OF
  rw [hs] at SN
  have STX := Lib.hid (fun w1 (kk : Kp w w1) => stands_f x ux qS w1 hx.slice hq1 hq2 ex hsx (T.kp kk))
  have STZ := Lib.hid (fun w1 (kk : Kp w w1) => stands_t z uz qE w1 hz.slice hq3 hq4 ez hsz (T.kp kk))
  have HC := Lib.hid (fun v w1 (hv : LeavesAt w1 v [⟨true, 0, staS x, endS z⟩]) (kk : Kp w w1) => by
    have c := denHas_any v _ qS qE w1 hv (ok_span (sta_set hsx) (end_set hsz)) (T.kp kk).1 hq1 hq2 hq3 hq4
    rw [span_has (sta_set hsx).1 (end_set hsz).1] at c
    exact c)
  generalize hasB (staS x) qS = b2 at *
  generalize hasB (endS z) qE = b3 at *
  generalize staS x = SA at *
  generalize endS z = SB at *
  rw [hb1] at HC
  subst hb2
  simp only [Bool.false_and, Bool.true_and] at HC
  clear hs hE hS ex ez hsx hsz T
  obtain ⟨adx, cpx, rfl⟩ := hx.slice
  obtain ⟨kx, pkx, yx, mx, qx, ax, tx, lx, rfl⟩ := nd_dest x
  obtain ⟨adz, cpz, rfl⟩ := hz.slice
  obtain ⟨kz, pkz, yz, mz, qz, az, tz, lz, rfl⟩ := nd_dest z
  unfold e15 ndV at *
  simp only [ND.k, ND.p, ND.a, ND.t, ND.l] at *
  obtain ⟨W0, hW⟩ : ∃ W0, W0 = ((w.alloc (.cells #[.int .i64 kx, .int .i64 pkx, .string yx, .string mx, .string qx, .bool ax, .bool tx, .slice adx lx.length cpx] 26)).alloc (.cells #[.int .i64 kz, .int .i64 pkz, .string yz, .string mz, .string qz, .bool az, .bool tz, .slice adz lz.length cpz] 26)).alloc (.cells #[.int .i64 qS, .int .i64 qE] 42) := ⟨_, rfl⟩
  have K00 := Lib.hid (show Kp w W0 by rw [hW]; exact ((Kp.alloc _ _).trans (Kp.alloc _ _)).trans (Kp.alloc _ _))
  have HB := Lib.hid (fun w1 (k : Kp W0 w1) => show w1.cell? ⟨w.heap.size, 0, none⟩ = some (.int .i64 kx) ∧ w1.cell? ⟨w.heap.size, 1, none⟩ = some (.int .i64 pkx) ∧ w1.cell? ⟨w.heap.size, 2, none⟩ = some (.string yx) ∧ w1.cell? ⟨w.heap.size, 3, none⟩ = some (.string mx) ∧ w1.cell? ⟨w.heap.size, 4, none⟩ = some (.string qx) ∧ w1.cell? ⟨w.heap.size, 5, none⟩ = some (.bool ax) ∧ w1.cell? ⟨w.heap.size, 6, none⟩ = some (.bool tx) ∧ w1.cell? ⟨w.heap.size, 7, none⟩ = some (.slice adx lx.length cpx) ∧ w1.cell? ⟨w.heap.size + 1, 0, none⟩ = some (.int .i64 kz) ∧ w1.cell? ⟨w.heap.size + 1, 1, none⟩ = some (.int .i64 pkz) ∧ w1.cell? ⟨w.heap.size + 1, 2, none⟩ = some (.string yz) ∧ w1.cell? ⟨w.heap.size + 1, 3, none⟩ = some (.string mz) ∧ w1.cell? ⟨w.heap.size + 1, 4, none⟩ = some (.string qz) ∧ w1.cell? ⟨w.heap.size + 1, 5, none⟩ = some (.bool az) ∧ w1.cell? ⟨w.heap.size + 1, 6, none⟩ = some (.bool tz) ∧ w1.cell? ⟨w.heap.size + 1, 7, none⟩ = some (.slice adz lz.length cpz) ∧ w1.cell? ⟨w.heap.size + 1 + 1, 0, none⟩ = some (.int .i64 qS) ∧ w1.cell? ⟨w.heap.size + 1 + 1, 1, none⟩ = some (.int .i64 qE) from ⟨cell_up k (show W0.cell? ⟨w.heap.size, 0, none⟩ = some (.int .i64 kx) by rw [hW]; go_simp), cell_up k (show W0.cell? ⟨w.heap.size, 1, none⟩ = some (.int .i64 pkx) by rw [hW]; go_simp), cell_up k (show W0.cell? ⟨w.heap.size, 2, none⟩ = some (.string yx) by rw [hW]; go_simp), cell_up k (show W0.cell? ⟨w.heap.size, 3, none⟩ = some (.string mx) by rw [hW]; go_simp), cell_up k (show W0.cell? ⟨w.heap.size, 4, none⟩ = some (.string qx) by rw [hW]; go_simp), cell_up k (show W0.cell? ⟨w.heap.size, 5, none⟩ = some (.bool ax) by rw [hW]; go_simp), cell_up k (show W0.cell? ⟨w.heap.size, 6, none⟩ = some (.bool tx) by rw [hW]; go_simp), cell_up k (show W0.cell? ⟨w.heap.size, 7, none⟩ = some (.slice adx lx.length cpx) by rw [hW]; go_simp), cell_up k (show W0.cell? ⟨w.heap.size + 1, 0, none⟩ = some (.int .i64 kz) by rw [hW]; go_simp), cell_up k (show W0.cell? ⟨w.heap.size + 1, 1, none⟩ = some (.int .i64 pkz) by rw [hW]; go_simp), cell_up k (show W0.cell? ⟨w.heap.size + 1, 2, none⟩ = some (.string yz) by rw [hW]; go_simp), cell_up k (show W0.cell? ⟨w.heap.size + 1, 3, none⟩ = some (.string mz) by rw [hW]; go_simp), cell_up k (show W0.cell? ⟨w.heap.size + 1, 4, none⟩ = some (.string qz) by rw [hW]; go_simp), cell_up k (show W0.cell? ⟨w.heap.size + 1, 5, none⟩ = some (.bool az) by rw [hW]; go_simp), cell_up k (show W0.cell? ⟨w.heap.size + 1, 6, none⟩ = some (.bool tz) by rw [hW]; go_simp), cell_up k (show W0.cell? ⟨w.heap.size + 1, 7, none⟩ = some (.slice adz lz.length cpz) by rw [hW]; go_simp), cell_up k (show W0.cell? ⟨w.heap.size + 1 + 1, 0, none⟩ = some (.int .i64 qS) by rw [hW]; go_simp), cell_up k (show W0.cell? ⟨w.heap.size + 1 + 1, 1, none⟩ = some (.int .i64 qE) by rw [hW]; go_simp)⟩)
  obtain ⟨c0, c1, c2, c3, c4, c5, c6, c7, c8, c9, c10, c11, c12, c13, c14, c15, c16, c17⟩ := HB.out W0 (Kp.refl _)
  have K0 := Lib.hid (Kp.refl W0)
  have HW := Lib.hid hW
  clear hW
  go_enter Tryz.func6, Tryz.ntmps6
  go_wp2_with fail
  rw [← HW.out]
  refine (AW.out _ (K00.out.trans (by first | with_reducible exact K0.out | with_reducible exact K0.out.trans (Kp.alloc _ _) | with_reducible exact (K0.out.trans (Kp.alloc _ _)).trans (Kp.alloc _ _) | with_reducible exact ((K0.out.trans (Kp.alloc _ _)).trans (Kp.alloc _ _)).trans (Kp.alloc _ _) | with_reducible exact K0.out.trans (Kp.drew _) | with_reducible exact K0.out.trans (Kp.drewN _ _)))).mono ?_
  rintro e w1 ⟨rfl, kk⟩
  have K1 := Lib.hid ((show Kp W0 _ from (by first | with_reducible exact K0.out | with_reducible exact K0.out.trans (Kp.alloc _ _) | with_reducible exact (K0.out.trans (Kp.alloc _ _)).trans (Kp.alloc _ _) | with_reducible exact ((K0.out.trans (Kp.alloc _ _)).trans (Kp.alloc _ _)).trans (Kp.alloc _ _) | with_reducible exact K0.out.trans (Kp.drew _) | with_reducible exact K0.out.trans (Kp.drewN _ _))).trans kk)
  clear kk
  clear c0 c1 c2 c3 c4 c5 c6 c7 c8 c9 c10 c11 c12 c13 c14 c15 c16 c17
  obtain ⟨c0, c1, c2, c3, c4, c5, c6, c7, c8, c9, c10, c11, c12, c13, c14, c15, c16, c17⟩ := HB.out w1 K1.out
  go_wp2_with fail
  refine (BT.out _ (K00.out.trans (by first | with_reducible exact K1.out | with_reducible exact K1.out.trans (Kp.alloc _ _) | with_reducible exact (K1.out.trans (Kp.alloc _ _)).trans (Kp.alloc _ _) | with_reducible exact ((K1.out.trans (Kp.alloc _ _)).trans (Kp.alloc _ _)).trans (Kp.alloc _ _) | with_reducible exact K1.out.trans (Kp.drew _) | with_reducible exact K1.out.trans (Kp.drewN _ _)))).mono ?_
  rintro e w2 ⟨s, rfl, hs2, kk⟩
  have K2 := Lib.hid ((show Kp W0 _ from (by first | with_reducible exact K1.out | with_reducible exact K1.out.trans (Kp.alloc _ _) | with_reducible exact (K1.out.trans (Kp.alloc _ _)).trans (Kp.alloc _ _) | with_reducible exact ((K1.out.trans (Kp.alloc _ _)).trans (Kp.alloc _ _)).trans (Kp.alloc _ _) | with_reducible exact K1.out.trans (Kp.drew _) | with_reducible exact K1.out.trans (Kp.drewN _ _))).trans kk)
  have NS2 := Lib.hid hs2
  obtain ⟨ads, cps, rfl⟩ := hs2.slice
  clear kk hs2
  clear c0 c1 c2 c3 c4 c5 c6 c7 c8 c9 c10 c11 c12 c13 c14 c15 c16 c17
  obtain ⟨c0, c1, c2, c3, c4, c5, c6, c7, c8, c9, c10, c11, c12, c13, c14, c15, c16, c17⟩ := HB.out w2 K2.out
  obtain ⟨w3, hV⟩ : ∃ x, x = w2.alloc (.cells #[.int .i64 1, .int .i64 0, .string ⟨#[]⟩, .string ⟨#[]⟩, .string ⟨#[]⟩, .bool false, .bool false, .slice ads 2 cps] 26) := ⟨_, rfl⟩
  have ka : Kp w2 w3 := by rw [hV]; exact Kp.alloc _ _
  have hgq : w3.heap[w2.heap.size]? = some (.cells #[.int .i64 1, .int .i64 0, .string ⟨#[]⟩, .string ⟨#[]⟩, .string ⟨#[]⟩, .bool false, .bool false, .slice ads 2 cps] 26 (0, 0)) := by rw [hV]; exact heap_at _ _ _ rfl
  have q0 : w3.cell? ⟨w2.heap.size, 0, none⟩ = some (.int .i64 1) := by simp [World.cell?, hgq]
  have q1 : w3.cell? ⟨w2.heap.size, 1, none⟩ = some (.int .i64 0) := by simp [World.cell?, hgq]
  have q2 : w3.cell? ⟨w2.heap.size, 2, none⟩ = some (.string ⟨#[]⟩) := by simp [World.cell?, hgq]
  have q3 : w3.cell? ⟨w2.heap.size, 3, none⟩ = some (.string ⟨#[]⟩) := by simp [World.cell?, hgq]
  have q4 : w3.cell? ⟨w2.heap.size, 4, none⟩ = some (.string ⟨#[]⟩) := by simp [World.cell?, hgq]
  have q5 : w3.cell? ⟨w2.heap.size, 5, none⟩ = some (.bool false) := by simp [World.cell?, hgq]
  have q6 : w3.cell? ⟨w2.heap.size, 6, none⟩ = some (.bool false) := by simp [World.cell?, hgq]
  have q7 : w3.cell? ⟨w2.heap.size, 7, none⟩ = some (.slice ads 2 cps) := by simp [World.cell?, hgq]
  have HB2 := Lib.hid (fun w1 (k : Kp w3 w1) => show w1.cell? ⟨w.heap.size, 0, none⟩ = some (.int .i64 kx) ∧ w1.cell? ⟨w.heap.size, 1, none⟩ = some (.int .i64 pkx) ∧ w1.cell? ⟨w.heap.size, 2, none⟩ = some (.string yx) ∧ w1.cell? ⟨w.heap.size, 3, none⟩ = some (.string mx) ∧ w1.cell? ⟨w.heap.size, 4, none⟩ = some (.string qx) ∧ w1.cell? ⟨w.heap.size, 5, none⟩ = some (.bool ax) ∧ w1.cell? ⟨w.heap.size, 6, none⟩ = some (.bool tx) ∧ w1.cell? ⟨w.heap.size, 7, none⟩ = some (.slice adx lx.length cpx) ∧ w1.cell? ⟨w.heap.size + 1, 0, none⟩ = some (.int .i64 kz) ∧ w1.cell? ⟨w.heap.size + 1, 1, none⟩ = some (.int .i64 pkz) ∧ w1.cell? ⟨w.heap.size + 1, 2, none⟩ = some (.string yz) ∧ w1.cell? ⟨w.heap.size + 1, 3, none⟩ = some (.string mz) ∧ w1.cell? ⟨w.heap.size + 1, 4, none⟩ = some (.string qz) ∧ w1.cell? ⟨w.heap.size + 1, 5, none⟩ = some (.bool az) ∧ w1.cell? ⟨w.heap.size + 1, 6, none⟩ = some (.bool tz) ∧ w1.cell? ⟨w.heap.size + 1, 7, none⟩ = some (.slice adz lz.length cpz) ∧ w1.cell? ⟨w.heap.size + 1 + 1, 0, none⟩ = some (.int .i64 qS) ∧ w1.cell? ⟨w.heap.size + 1 + 1, 1, none⟩ = some (.int .i64 qE) ∧ w1.cell? ⟨w2.heap.size, 0, none⟩ = some (.int .i64 1) ∧ w1.cell? ⟨w2.heap.size, 1, none⟩ = some (.int .i64 0) ∧ w1.cell? ⟨w2.heap.size, 2, none⟩ = some (.string ⟨#[]⟩) ∧ w1.cell? ⟨w2.heap.size, 3, none⟩ = some (.string ⟨#[]⟩) ∧ w1.cell? ⟨w2.heap.size, 4, none⟩ = some (.string ⟨#[]⟩) ∧ w1.cell? ⟨w2.heap.size, 5, none⟩ = some (.bool false) ∧ w1.cell? ⟨w2.heap.size, 6, none⟩ = some (.bool false) ∧ w1.cell? ⟨w2.heap.size, 7, none⟩ = some (.slice ads 2 cps) from ⟨(HB.out w1 (K2.out.trans (ka.trans k))).1, (HB.out w1 (K2.out.trans (ka.trans k))).2.1, (HB.out w1 (K2.out.trans (ka.trans k))).2.2.1, (HB.out w1 (K2.out.trans (ka.trans k))).2.2.2.1, (HB.out w1 (K2.out.trans (ka.trans k))).2.2.2.2.1, (HB.out w1 (K2.out.trans (ka.trans k))).2.2.2.2.2.1, (HB.out w1 (K2.out.trans (ka.trans k))).2.2.2.2.2.2.1, (HB.out w1 (K2.out.trans (ka.trans k))).2.2.2.2.2.2.2.1, (HB.out w1 (K2.out.trans (ka.trans k))).2.2.2.2.2.2.2.2.1, (HB.out w1 (K2.out.trans (ka.trans k))).2.2.2.2.2.2.2.2.2.1, (HB.out w1 (K2.out.trans (ka.trans k))).2.2.2.2.2.2.2.2.2.2.1, (HB.out w1 (K2.out.trans (ka.trans k))).2.2.2.2.2.2.2.2.2.2.2.1, (HB.out w1 (K2.out.trans (ka.trans k))).2.2.2.2.2.2.2.2.2.2.2.2.1, (HB.out w1 (K2.out.trans (ka.trans k))).2.2.2.2.2.2.2.2.2.2.2.2.2.1, (HB.out w1 (K2.out.trans (ka.trans k))).2.2.2.2.2.2.2.2.2.2.2.2.2.2.1, (HB.out w1 (K2.out.trans (ka.trans k))).2.2.2.2.2.2.2.2.2.2.2.2.2.2.2.1, (HB.out w1 (K2.out.trans (ka.trans k))).2.2.2.2.2.2.2.2.2.2.2.2.2.2.2.2.1, (HB.out w1 (K2.out.trans (ka.trans k))).2.2.2.2.2.2.2.2.2.2.2.2.2.2.2.2.2, cell_up k q0, cell_up k q1, cell_up k q2, cell_up k q3, cell_up k q4, cell_up k q5, cell_up k q6, cell_up k q7⟩)
  have K01 := Lib.hid (K00.out.trans (K2.out.trans ka))
  have NS3 := Lib.hid (NS2.out.kp ka)
  clear HB K00 hgq c0 c1 c2 c3 c4 c5 c6 c7 c8 c9 c10 c11 c12 c13 c14 c15 c16 c17 q0 q1 q2 q3 q4 q5 q6 q7
  have HB := HB2
  have K00 := K01
  clear HB2 K01
  have K3 := Lib.hid (Kp.refl w3)
  have Hw3 := Lib.hid hV
  clear hV ka
  go_wp2_with fail
  rw [← Hw3.out]
  obtain ⟨c0, c1, c2, c3, c4, c5, c6, c7, c8, c9, c10, c11, c12, c13, c14, c15, c16, c17, c18, c19, c20, c21, c22, c23, c24, c25⟩ := HB.out w3 (Kp.refl _)
  go_wp2_with fail
  refine (SM.out _ _ (NS3.out.kp (by first | with_reducible exact Kp.refl _ | with_reducible exact Kp.alloc _ _ | with_reducible exact (Kp.alloc _ _).trans (Kp.alloc _ _) | with_reducible exact ((Kp.alloc _ _).trans (Kp.alloc _ _)).trans (Kp.alloc _ _) | with_reducible exact Kp.drew _ | with_reducible exact Kp.drewN _ _))).mono ?_
  rintro e w4 ⟨⟨b, hb, rfl⟩, kk⟩
  have K4 := Lib.hid ((show Kp w3 _ from (by first | with_reducible exact K3.out | with_reducible exact K3.out.trans (Kp.alloc _ _) | with_reducible exact (K3.out.trans (Kp.alloc _ _)).trans (Kp.alloc _ _) | with_reducible exact ((K3.out.trans (Kp.alloc _ _)).trans (Kp.alloc _ _)).trans (Kp.alloc _ _) | with_reducible exact K3.out.trans (Kp.drew _) | with_reducible exact K3.out.trans (Kp.drewN _ _))).trans kk)
  clear kk c0 c1 c2 c3 c4 c5 c6 c7 c8 c9 c10 c11 c12 c13 c14 c15 c16 c17 c18 c19 c20 c21 c22 c23 c24 c25
  obtain ⟨c0, c1, c2, c3, c4, c5, c6, c7, c8, c9, c10, c11, c12, c13, c14, c15, c16, c17, c18, c19, c20, c21, c22, c23, c24, c25⟩ := HB.out w4 K4.out
  rcases hb with rfl | rfl
  rotate_left
  · go_wp2
    go_ret
    exact ⟨rfl, K00.out.trans K4.out⟩
  go_wp2_with fail
  refine (SN.out _ _ (NS3.out.kp (by first | with_reducible exact K4.out | with_reducible exact K4.out.trans (Kp.alloc _ _) | with_reducible exact (K4.out.trans (Kp.alloc _ _)).trans (Kp.alloc _ _) | with_reducible exact ((K4.out.trans (Kp.alloc _ _)).trans (Kp.alloc _ _)).trans (Kp.alloc _ _) | with_reducible exact K4.out.trans (Kp.drew _) | with_reducible exact K4.out.trans (Kp.drewN _ _))) (K00.out.trans (by first | with_reducible exact K4.out | with_reducible exact K4.out.trans (Kp.alloc _ _) | with_reducible exact (K4.out.trans (Kp.alloc _ _)).trans (Kp.alloc _ _) | with_reducible exact ((K4.out.trans (Kp.alloc _ _)).trans (Kp.alloc _ _)).trans (Kp.alloc _ _) | with_reducible exact K4.out.trans (Kp.drew _) | with_reducible exact K4.out.trans (Kp.drewN _ _)))).mono ?_
  rintro e w5 ⟨rfl, kk⟩
  have K5 := Lib.hid ((show Kp w3 _ from (by first | with_reducible exact K4.out | with_reducible exact K4.out.trans (Kp.alloc _ _) | with_reducible exact (K4.out.trans (Kp.alloc _ _)).trans (Kp.alloc _ _) | with_reducible exact ((K4.out.trans (Kp.alloc _ _)).trans (Kp.alloc _ _)).trans (Kp.alloc _ _) | with_reducible exact K4.out.trans (Kp.drew _) | with_reducible exact K4.out.trans (Kp.drewN _ _))).trans kk)
  clear kk
  clear c0 c1 c2 c3 c4 c5 c6 c7 c8 c9 c10 c11 c12 c13 c14 c15 c16 c17 c18 c19 c20 c21 c22 c23 c24 c25
  obtain ⟨c0, c1, c2, c3, c4, c5, c6, c7, c8, c9, c10, c11, c12, c13, c14, c15, c16, c17, c18, c19, c20, c21, c22, c23, c24, c25⟩ := HB.out w5 K5.out
  go_wp2_with fail
  refine (OF.out _ _ (NS3.out.kp (by first | with_reducible exact K5.out | with_reducible exact K5.out.trans (Kp.alloc _ _) | with_reducible exact (K5.out.trans (Kp.alloc _ _)).trans (Kp.alloc _ _) | with_reducible exact ((K5.out.trans (Kp.alloc _ _)).trans (Kp.alloc _ _)).trans (Kp.alloc _ _) | with_reducible exact K5.out.trans (Kp.drew _) | with_reducible exact K5.out.trans (Kp.drewN _ _))) (K00.out.trans (by first | with_reducible exact K5.out | with_reducible exact K5.out.trans (Kp.alloc _ _) | with_reducible exact (K5.out.trans (Kp.alloc _ _)).trans (Kp.alloc _ _) | with_reducible exact ((K5.out.trans (Kp.alloc _ _)).trans (Kp.alloc _ _)).trans (Kp.alloc _ _) | with_reducible exact K5.out.trans (Kp.drew _) | with_reducible exact K5.out.trans (Kp.drewN _ _)))).mono ?_
  rintro e w6 ⟨v7, rfl, h7, kk⟩
  have K6 := Lib.hid ((show Kp w3 _ from (by first | with_reducible exact K5.out | with_reducible exact K5.out.trans (Kp.alloc _ _) | with_reducible exact (K5.out.trans (Kp.alloc _ _)).trans (Kp.alloc _ _) | with_reducible exact ((K5.out.trans (Kp.alloc _ _)).trans (Kp.alloc _ _)).trans (Kp.alloc _ _) | with_reducible exact K5.out.trans (Kp.drew _) | with_reducible exact K5.out.trans (Kp.drewN _ _))).trans kk)
  have LV := Lib.hid h7
  obtain ⟨ad7, cp7, rfl⟩ := h7.slice
  clear kk h7
  clear c0 c1 c2 c3 c4 c5 c6 c7 c8 c9 c10 c11 c12 c13 c14 c15 c16 c17 c18 c19 c20 c21 c22 c23 c24 c25
  obtain ⟨c0, c1, c2, c3, c4, c5, c6, c7, c8, c9, c10, c11, c12, c13, c14, c15, c16, c17, c18, c19, c20, c21, c22, c23, c24, c25⟩ := HB.out w6 K6.out
  have KS := Lib.hid (fun w' (kq : Kp w6 w') => show w'.cell? ⟨w.heap.size, 0, none⟩ = some (.int .i64 kx) ∧ w'.cell? ⟨w.heap.size, 1, none⟩ = some (.int .i64 pkx) ∧ w'.cell? ⟨w.heap.size, 2, none⟩ = some (.string yx) ∧ w'.cell? ⟨w.heap.size, 3, none⟩ = some (.string mx) ∧ w'.cell? ⟨w.heap.size, 4, none⟩ = some (.string qx) ∧ w'.cell? ⟨w.heap.size, 5, none⟩ = some (.bool ax) ∧ w'.cell? ⟨w.heap.size, 6, none⟩ = some (.bool tx) ∧ w'.cell? ⟨w.heap.size, 7, none⟩ = some (.slice adx lx.length cpx) ∧ w'.cell? ⟨w.heap.size + 1, 0, none⟩ = some (.int .i64 kz) ∧ w'.cell? ⟨w.heap.size + 1, 1, none⟩ = some (.int .i64 pkz) ∧ w'.cell? ⟨w.heap.size + 1, 2, none⟩ = some (.string yz) ∧ w'.cell? ⟨w.heap.size + 1, 3, none⟩ = some (.string mz) ∧ w'.cell? ⟨w.heap.size + 1, 4, none⟩ = some (.string qz) ∧ w'.cell? ⟨w.heap.size + 1, 5, none⟩ = some (.bool az) ∧ w'.cell? ⟨w.heap.size + 1, 6, none⟩ = some (.bool tz) ∧ w'.cell? ⟨w.heap.size + 1, 7, none⟩ = some (.slice adz lz.length cpz) ∧ w'.cell? ⟨w.heap.size + 1 + 1, 0, none⟩ = some (.int .i64 qS) ∧ w'.cell? ⟨w.heap.size + 1 + 1, 1, none⟩ = some (.int .i64 qE) ∧ w'.cell? ⟨w2.heap.size, 0, none⟩ = some (.int .i64 1) ∧ w'.cell? ⟨w2.heap.size, 1, none⟩ = some (.int .i64 0) ∧ w'.cell? ⟨w2.heap.size, 2, none⟩ = some (.string ⟨#[]⟩) ∧ w'.cell? ⟨w2.heap.size, 3, none⟩ = some (.string ⟨#[]⟩) ∧ w'.cell? ⟨w2.heap.size, 4, none⟩ = some (.string ⟨#[]⟩) ∧ w'.cell? ⟨w2.heap.size, 5, none⟩ = some (.bool false) ∧ w'.cell? ⟨w2.heap.size, 6, none⟩ = some (.bool false) ∧ w'.cell? ⟨w2.heap.size, 7, none⟩ = some (.slice ads 2 cps) ∧ Kp w6 w' from ⟨(HB.out w' (K6.out.trans kq)).1, (HB.out w' (K6.out.trans kq)).2.1, (HB.out w' (K6.out.trans kq)).2.2.1, (HB.out w' (K6.out.trans kq)).2.2.2.1, (HB.out w' (K6.out.trans kq)).2.2.2.2.1, (HB.out w' (K6.out.trans kq)).2.2.2.2.2.1, (HB.out w' (K6.out.trans kq)).2.2.2.2.2.2.1, (HB.out w' (K6.out.trans kq)).2.2.2.2.2.2.2.1, (HB.out w' (K6.out.trans kq)).2.2.2.2.2.2.2.2.1, (HB.out w' (K6.out.trans kq)).2.2.2.2.2.2.2.2.2.1, (HB.out w' (K6.out.trans kq)).2.2.2.2.2.2.2.2.2.2.1, (HB.out w' (K6.out.trans kq)).2.2.2.2.2.2.2.2.2.2.2.1, (HB.out w' (K6.out.trans kq)).2.2.2.2.2.2.2.2.2.2.2.2.1, (HB.out w' (K6.out.trans kq)).2.2.2.2.2.2.2.2.2.2.2.2.2.1, (HB.out w' (K6.out.trans kq)).2.2.2.2.2.2.2.2.2.2.2.2.2.2.1, (HB.out w' (K6.out.trans kq)).2.2.2.2.2.2.2.2.2.2.2.2.2.2.2.1, (HB.out w' (K6.out.trans kq)).2.2.2.2.2.2.2.2.2.2.2.2.2.2.2.2.1, (HB.out w' (K6.out.trans kq)).2.2.2.2.2.2.2.2.2.2.2.2.2.2.2.2.2.1, (HB.out w' (K6.out.trans kq)).2.2.2.2.2.2.2.2.2.2.2.2.2.2.2.2.2.2.1, (HB.out w' (K6.out.trans kq)).2.2.2.2.2.2.2.2.2.2.2.2.2.2.2.2.2.2.2.1, (HB.out w' (K6.out.trans kq)).2.2.2.2.2.2.2.2.2.2.2.2.2.2.2.2.2.2.2.2.1, (HB.out w' (K6.out.trans kq)).2.2.2.2.2.2.2.2.2.2.2.2.2.2.2.2.2.2.2.2.2.1, (HB.out w' (K6.out.trans kq)).2.2.2.2.2.2.2.2.2.2.2.2.2.2.2.2.2.2.2.2.2.2.1, (HB.out w' (K6.out.trans kq)).2.2.2.2.2.2.2.2.2.2.2.2.2.2.2.2.2.2.2.2.2.2.2.1, (HB.out w' (K6.out.trans kq)).2.2.2.2.2.2.2.2.2.2.2.2.2.2.2.2.2.2.2.2.2.2.2.2.1, (HB.out w' (K6.out.trans kq)).2.2.2.2.2.2.2.2.2.2.2.2.2.2.2.2.2.2.2.2.2.2.2.2.2, kq⟩)
  go_wp2_with fail
  refine wp_region_held_drew (S := fun w' => w'.cell? ⟨w.heap.size, 0, none⟩ = some (.int .i64 kx) ∧ w'.cell? ⟨w.heap.size, 1, none⟩ = some (.int .i64 pkx) ∧ w'.cell? ⟨w.heap.size, 2, none⟩ = some (.string yx) ∧ w'.cell? ⟨w.heap.size, 3, none⟩ = some (.string mx) ∧ w'.cell? ⟨w.heap.size, 4, none⟩ = some (.string qx) ∧ w'.cell? ⟨w.heap.size, 5, none⟩ = some (.bool ax) ∧ w'.cell? ⟨w.heap.size, 6, none⟩ = some (.bool tx) ∧ w'.cell? ⟨w.heap.size, 7, none⟩ = some (.slice adx lx.length cpx) ∧ w'.cell? ⟨w.heap.size + 1, 0, none⟩ = some (.int .i64 kz) ∧ w'.cell? ⟨w.heap.size + 1, 1, none⟩ = some (.int .i64 pkz) ∧ w'.cell? ⟨w.heap.size + 1, 2, none⟩ = some (.string yz) ∧ w'.cell? ⟨w.heap.size + 1, 3, none⟩ = some (.string mz) ∧ w'.cell? ⟨w.heap.size + 1, 4, none⟩ = some (.string qz) ∧ w'.cell? ⟨w.heap.size + 1, 5, none⟩ = some (.bool az) ∧ w'.cell? ⟨w.heap.size + 1, 6, none⟩ = some (.bool tz) ∧ w'.cell? ⟨w.heap.size + 1, 7, none⟩ = some (.slice adz lz.length cpz) ∧ w'.cell? ⟨w.heap.size + 1 + 1, 0, none⟩ = some (.int .i64 qS) ∧ w'.cell? ⟨w.heap.size + 1 + 1, 1, none⟩ = some (.int .i64 qE) ∧ w'.cell? ⟨w2.heap.size, 0, none⟩ = some (.int .i64 1) ∧ w'.cell? ⟨w2.heap.size, 1, none⟩ = some (.int .i64 0) ∧ w'.cell? ⟨w2.heap.size, 2, none⟩ = some (.string ⟨#[]⟩) ∧ w'.cell? ⟨w2.heap.size, 3, none⟩ = some (.string ⟨#[]⟩) ∧ w'.cell? ⟨w2.heap.size, 4, none⟩ = some (.string ⟨#[]⟩) ∧ w'.cell? ⟨w2.heap.size, 5, none⟩ = some (.bool false) ∧ w'.cell? ⟨w2.heap.size, 6, none⟩ = some (.bool false) ∧ w'.cell? ⟨w2.heap.size, 7, none⟩ = some (.slice ads 2 cps) ∧ Kp w6 w') (by kernel_rfl) ?_ (fun hHeld0 => ?_)
  · (try dsimp only); exact KS.out _ (by first | assumption | exact Kp.drew _)
  refine tkW (v := ?_) 0 spA0 rfl (by kernel_rfl) (by kernel_rfl) (by kernel_rfl) (fun _ _ _ h => h) (by rfl) ?_ (by assumption) ?_
  rotate_left
  · intro w hSw; (try dsimp only at hSw); go_simp; (try with_reducible rfl)
  (try simp only [Act.put, spA0, List.setIfInBounds_toArray, List.set_cons_zero, List.set_cons_succ])
  refine tkW (v := ?_) 1 spA1 rfl (by kernel_rfl) (by kernel_rfl) (by kernel_rfl) (fun _ _ _ h => h) (by rfl) ?_ (by assumption) ?_
  rotate_left
  · intro w hSw; (try dsimp only at hSw); go_simp; (try with_reducible rfl)
  (try simp only [Act.put, spA1, List.setIfInBounds_toArray, List.set_cons_zero, List.set_cons_succ])
  refine tkW (v := ?_) 2 spA2 rfl (by kernel_rfl) (by kernel_rfl) (by kernel_rfl) (fun _ _ _ h => h) (by rfl) ?_ (by assumption) ?_
  rotate_left
  · intro w hSw; (try dsimp only at hSw); go_simp; (try with_reducible rfl)
  (try simp only [Act.put, spA2, List.setIfInBounds_toArray, List.set_cons_zero, List.set_cons_succ])
  refine tkW (v := ?_) 3 spA3 rfl (by kernel_rfl) (by kernel_rfl) (by kernel_rfl) (fun _ _ _ h => h) (by rfl) ?_ (by assumption) ?_
  rotate_left
  · intro w hSw; (try dsimp only at hSw); go_simp; (try with_reducible rfl)
  (try simp only [Act.put, spA3, List.setIfInBounds_toArray, List.set_cons_zero, List.set_cons_succ])
  refine tkW (v := ?_) 4 spA4 rfl (by kernel_rfl) (by kernel_rfl) (by kernel_rfl) (fun _ _ _ h => h) (by rfl) ?_ (by assumption) ?_
  rotate_left
  · intro w hSw; (try dsimp only at hSw); go_simp; (try with_reducible rfl)
  (try simp only [Act.put, spA4, List.setIfInBounds_toArray, List.set_cons_zero, List.set_cons_succ])
  refine tkW (v := ?_) 5 spA5 rfl (by kernel_rfl) (by kernel_rfl) (by kernel_rfl) (fun _ _ _ h => h) (by rfl) ?_ (by assumption) ?_
  rotate_left
  · intro w hSw; (try dsimp only at hSw); go_simp; (try with_reducible rfl)
  (try simp only [Act.put, spA5, List.setIfInBounds_toArray, List.set_cons_zero, List.set_cons_succ])
  refine tkW (v := ?_) 6 spA6 rfl (by kernel_rfl) (by kernel_rfl) (by kernel_rfl) (fun _ _ _ h => h) (by rfl) ?_ (by assumption) ?_
  rotate_left
  · intro w hSw; (try dsimp only at hSw); go_simp; (try with_reducible rfl)
  (try simp only [Act.put, spA6, List.setIfInBounds_toArray, List.set_cons_zero, List.set_cons_succ])
  refine tkW (v := ?_) 7 spA7 rfl (by kernel_rfl) (by kernel_rfl) (by kernel_rfl) (fun _ _ _ h => h) (by rfl) ?_ (by assumption) ?_
  rotate_left
  · intro w hSw; (try dsimp only at hSw); go_simp; (try with_reducible rfl)
  (try simp only [Act.put, spA7, List.setIfInBounds_toArray, List.set_cons_zero, List.set_cons_succ])
  refine tkW (v := ?_) 8 spA8 rfl (by kernel_rfl) (by kernel_rfl) (by kernel_rfl) (fun _ _ _ h => h) (by rfl) ?_ (by assumption) ?_
  rotate_left
  · intro w hSw; (try dsimp only at hSw); go_simp; (try with_reducible rfl)
  (try simp only [Act.put, spA8, List.setIfInBounds_toArray, List.set_cons_zero, List.set_cons_succ])
  refine tkW (v := ?_) 10 spA10 rfl (by kernel_rfl) (by kernel_rfl) (by kernel_rfl) (fun _ _ _ h => h) (by rfl) ?_ (by assumption) ?_
  rotate_left
  · intro w hSw; (try dsimp only at hSw); go_simp; (try with_reducible rfl)
  (try simp only [Act.put, spA10, List.setIfInBounds_toArray, List.set_cons_zero, List.set_cons_succ])
  refine tkW (v := ?_) 11 spA11 rfl (by kernel_rfl) (by kernel_rfl) (by kernel_rfl) (fun _ _ _ h => h) (by rfl) ?_ (by assumption) ?_
  rotate_left
  · intro w hSw; (try dsimp only at hSw); go_simp; (try with_reducible rfl)
  (try simp only [Act.put, spA11, List.setIfInBounds_toArray, List.set_cons_zero, List.set_cons_succ])
  refine tkW (v := ?_) 12 spA12 rfl (by kernel_rfl) (by kernel_rfl) (by kernel_rfl) (fun _ _ _ h => h) (by rfl) ?_ (by assumption) ?_
  rotate_left
  · intro w hSw; (try dsimp only at hSw); go_simp; (try with_reducible rfl)
  (try simp only [Act.put, spA12, List.setIfInBounds_toArray, List.set_cons_zero, List.set_cons_succ])
  refine tkW (v := ?_) 13 spA13 rfl (by kernel_rfl) (by kernel_rfl) (by kernel_rfl) (fun _ _ _ h => h) (by rfl) ?_ (by assumption) ?_
  rotate_left
  · intro w hSw; (try dsimp only at hSw); go_simp; (try with_reducible rfl)
  (try simp only [Act.put, spA13, List.setIfInBounds_toArray, List.set_cons_zero, List.set_cons_succ])
  refine tkW (v := ?_) 14 spA14 rfl (by kernel_rfl) (by kernel_rfl) (by kernel_rfl) (fun _ _ _ h => h) (by rfl) ?_ (by assumption) ?_
  rotate_left
  · intro w hSw; (try dsimp only at hSw); go_simp; (try with_reducible rfl)
  (try simp only [Act.put, spA14, List.setIfInBounds_toArray, List.set_cons_zero, List.set_cons_succ])
  refine tkE 9 spA9 rfl (by kernel_rfl) (fun K hK => ?_)
  go_simp
  (refine (HC.out _ _ (LV.out.kp (by first | assumption | exact Kp.drew _)) (K00.out.trans (K6.out.trans (by first | assumption | exact Kp.drew _)))).mono ?_; rintro e wa ⟨rfl, k1⟩; have k2 := Kp.trans (show Kp w6 _ from (by first | assumption | exact Kp.drew _)) k1; clear k1)
  (try go_wp2_with fail)
  refine hK.out _ _ ?_ (fun hHeld1 => ?_)
  · (try dsimp only); exact KS.out _ (by first | assumption | exact Kp.drew _)
  clear hK K hHeld0
  (try simp only [Act.put, spA9, List.setIfInBounds_toArray, List.set_cons_zero, List.set_cons_succ])
  refine tkW (v := ?_) 15 spA15 rfl (by kernel_rfl) (by kernel_rfl) (by kernel_rfl) (fun _ _ _ h => h) (by rfl) ?_ (by assumption) ?_
  rotate_left
  · intro w hSw; (try dsimp only at hSw); go_simp; (try with_reducible rfl)
  (try simp only [Act.put, spA15, List.setIfInBounds_toArray, List.set_cons_zero, List.set_cons_succ])
  refine tkW (v := ?_) 16 spA16 rfl (by kernel_rfl) (by kernel_rfl) (by kernel_rfl) (fun _ _ _ h => h) (by rfl) ?_ (by assumption) ?_
  rotate_left
  · intro w hSw; (try dsimp only at hSw); go_simp; (try with_reducible rfl)
  (try simp only [Act.put, spA16, List.setIfInBounds_toArray, List.set_cons_zero, List.set_cons_succ])
  refine tkW (v := ?_) 17 spA17 rfl (by kernel_rfl) (by kernel_rfl) (by kernel_rfl) (fun _ _ _ h => h) (by rfl) ?_ (by assumption) ?_
  rotate_left
  · intro w hSw; (try dsimp only at hSw); go_simp; (try with_reducible rfl)
  (try simp only [Act.put, spA17, List.setIfInBounds_toArray, List.set_cons_zero, List.set_cons_succ])
  refine tkW (v := ?_) 18 spA18 rfl (by kernel_rfl) (by kernel_rfl) (by kernel_rfl) (fun _ _ _ h => h) (by rfl) ?_ (by assumption) ?_
  rotate_left
  · intro w hSw; (try dsimp only at hSw); go_simp; (try with_reducible rfl)
  (try simp only [Act.put, spA18, List.setIfInBounds_toArray, List.set_cons_zero, List.set_cons_succ])
  refine tkE 19 spA19 rfl (by kernel_rfl) (fun K hK => ?_)
  go_simp
  (refine (STX.out _ (K00.out.trans (K6.out.trans (by first | assumption | exact Kp.drew _)))).mono ?_; rintro e wb ⟨rfl, k1⟩; have k2 := Kp.trans (show Kp w6 _ from (by first | assumption | exact Kp.drew _)) k1; clear k1)
  (try go_wp2_with fail)
  refine hK.out _ _ ?_ (fun hHeld2 => ?_)
  · (try dsimp only); exact KS.out _ (by first | assumption | exact Kp.drew _)
  clear hK K hHeld1
  (try simp only [Act.put, spA19, List.setIfInBounds_toArray, List.set_cons_zero, List.set_cons_succ])
  refine tkW (v := ?_) 20 spA20 rfl (by kernel_rfl) (by kernel_rfl) (by kernel_rfl) (fun _ _ _ h => h) (by rfl) ?_ (by assumption) ?_
  rotate_left
  · intro w hSw; (try dsimp only at hSw); go_simp; (try with_reducible rfl)
  (try simp only [Act.put, spA20, List.setIfInBounds_toArray, List.set_cons_zero, List.set_cons_succ])
  refine tkW (v := ?_) 21 spA21 rfl (by kernel_rfl) (by kernel_rfl) (by kernel_rfl) (fun _ _ _ h => h) (by rfl) ?_ (by assumption) ?_
  rotate_left
  · intro w hSw; (try dsimp only at hSw); go_simp; (try with_reducible rfl)
  (try simp only [Act.put, spA21, List.setIfInBounds_toArray, List.set_cons_zero, List.set_cons_succ])
  refine tkU 22 spA22 rfl (by kernel_rfl) (by kernel_rfl) (by kernel_rfl) (fun _ _ _ h => h) (by rfl) (by assumption) ?_
  (try simp only [Act.put, spA22, List.setIfInBounds_toArray, List.set_cons_zero, List.set_cons_succ])
  refine tkU 23 spA23 rfl (by kernel_rfl) (by kernel_rfl) (by kernel_rfl) (fun _ _ _ h => h) (by rfl) (by assumption) ?_
  (try simp only [Act.put, spA23, List.setIfInBounds_toArray, List.set_cons_zero, List.set_cons_succ])
  refine tkU 24 spA24 rfl (by kernel_rfl) (by kernel_rfl) (by kernel_rfl) (fun _ _ _ h => h) (by rfl) (by assumption) ?_
  (try simp only [Act.put, spA24, List.setIfInBounds_toArray, List.set_cons_zero, List.set_cons_succ])
  refine tkU 25 spA25 rfl (by kernel_rfl) (by kernel_rfl) (by kernel_rfl) (fun _ _ _ h => h) (by rfl) (by assumption) ?_
  (try simp only [Act.put, spA25, List.setIfInBounds_toArray, List.set_cons_zero, List.set_cons_succ])
  refine tkW (v := ?_) 26 spA26 rfl (by kernel_rfl) (by kernel_rfl) (by kernel_rfl) (fun _ _ _ h => h) (by rfl) ?_ (by assumption) ?_
  rotate_left
  · intro w hSw; (try dsimp only at hSw); go_simp; (try with_reducible rfl)
  (try simp only [Act.put, spA26, List.setIfInBounds_toArray, List.set_cons_zero, List.set_cons_succ])
  refine tkW (v := ?_) 27 spA27 rfl (by kernel_rfl) (by kernel_rfl) (by kernel_rfl) (fun _ _ _ h => h) (by rfl) ?_ (by assumption) ?_
  rotate_left
  · intro w hSw; (try dsimp only at hSw); go_simp; (try with_reducible rfl)
  (try simp only [Act.put, spA27, List.setIfInBounds_toArray, List.set_cons_zero, List.set_cons_succ])
  refine tkW (v := ?_) 28 spA28 rfl (by kernel_rfl) (by kernel_rfl) (by kernel_rfl) (fun _ _ _ h => h) (by rfl) ?_ (by assumption) ?_
  rotate_left
  · intro w hSw; (try dsimp only at hSw); go_simp; (try with_reducible rfl)
  (try simp only [Act.put, spA28, List.setIfInBounds_toArray, List.set_cons_zero, List.set_cons_succ])
  refine tkW (v := ?_) 29 spA29 rfl (by kernel_rfl) (by kernel_rfl) (by kernel_rfl) (fun _ _ _ h => h) (by rfl) ?_ (by assumption) ?_
  rotate_left
  · intro w hSw; (try dsimp only at hSw); go_simp; (try with_reducible rfl)
  (try simp only [Act.put, spA29, List.setIfInBounds_toArray, List.set_cons_zero, List.set_cons_succ])
  refine wpAnyH_done (by kernel_rfl) ?_ _
  go_wp2
  go_ret
  exact ⟨rfl, K00.out.trans (K6.out.trans k2)⟩
set_option maxHeartbeats 16000000 in
set_option maxRecDepth 100000 in
theorem dspan_y3 (x : ND) (ux : Value) (z : ND) (uz : Value) (qS qE : Int) (w : World) (hx : NodesAt w ux x.l) (hz : NodesAt w uz z.l) (hq1 : -9223372036854775808 ≤ qS) (hq2 : qS ≤ 9223372036854775807) (hq3 : -9223372036854775808 ≤ qE) (hq4 : qE ≤ 9223372036854775807) (T : Tabs8 w) (hs : saneN saneP (.mk 1 e15 false false [x, z] : ND) = true) (hE : ofE (.mk 1 e15 false false [x, z] : ND) = 0) (hS : ofS (.mk 1 e15 false false [x, z] : ND) = [⟨true, 0, staS x, endS z⟩]) (ex : endN saneP x = true) (ez : endN saneP z = true) (hsx : siE x = 0) (hsz : siE z = 0) (hb1 : decide (qS ≤ qE) = true) (hb2 : hasB (staS x) qS = true) :
    Calls Tryz.prog 6 #[ndV x ux, ndV z uz, .agg #[.int .i64 qS, .int .i64 qE]] w fun e w' => e = .returned (.bool true) ∧ Kp w w' := by
  have AW := Lib.hid (fun w1 (kk : Kp w w1) => awake15 w1 (T.kp kk))
  have BT := Lib.hid (fun w1 (kk : Kp w w1) => between_any x z ux uz w1 (hx.kp kk) (hz.kp kk))
  have SM := Lib.hid (fun s w1 (h : NodesAt w1 s [x, z]) => small_any (.mk 1 e15 false false [x, z] : ND) s w1 h)
  have SN := Lib.hid (fun s w1 (h : NodesAt w1 s [x, z]) (kk : Kp w w1) => tSaneG_any (.mk 1 e15 false false [x, z] : ND) s w1 h (T.kp kk).2.1)
  have OF := Lib.hid (fun s w1 (h : NodesAt w1 s [x, z]) (kk : Kp w w1) => dnOf_any (.mk 1 e15 false false [x, z] : ND) s w1 h (T.kp kk))
  rw [hE, hS] at OF
  rw [hs] at SN
  have STX := Lib.hid (fun w1 (kk : Kp w w1) => stands_f x ux qS w1 hx.slice hq1 hq2 ex hsx (T.kp kk))
  have STZ := Lib.hid (fun w1 (kk : Kp w w1) => stands_t z uz qE w1 hz.slice hq3 hq4 ez hsz (T.kp kk))
  have HC := Lib.hid (fun v w1 (hv : LeavesAt w1 v [⟨true, 0, staS x, endS z⟩]) (kk : Kp w w1) => by
    have c := denHas_any v _ qS qE w1 hv (ok_span (sta_set hsx) (end_set hsz)) (T.kp kk).1 hq1 hq2 hq3 hq4
    rw [span_has (sta_set hsx).1 (end_set hsz).1] at c
    exact c)
  generalize hasB (staS x) qS = b2 at *
  generalize hasB (endS z) qE = b3 at *
  generalize staS x = SA at *
  generalize endS z = SB at *
  rw [hb1] at HC
  subst hb2
  simp only [Bool.false_and, Bool.true_and] at HC
  clear hs hE hS ex ez hsx hsz T
  obtain ⟨adx, cpx, rfl⟩ := hx.slice
  obtain ⟨kx, pkx, yx, mx, qx, ax, tx, lx, rfl⟩ := nd_dest x
  obtain ⟨adz, cpz, rfl⟩ := hz.slice
  obtain ⟨kz, pkz, yz, mz, qz, az, tz, lz, rfl⟩ := nd_dest z
  unfold e15 ndV at *
  simp only [ND.k, ND.p, ND.a, ND.t, ND.l] at *
  obtain ⟨W0, hW⟩ : ∃ W0, W0 = ((w.alloc (.cells #[.int .i64 kx, .int .i64 pkx, .string yx, .string mx, .string qx, .bool ax, .bool tx, .slice adx lx.length cpx] 26)).alloc (.cells #[.int .i64 kz, .int .i64 pkz, .string yz, .string mz, .string qz, .bool az, .bool tz, .slice adz lz.length cpz] 26)).alloc (.cells #[.int .i64 qS, .int .i64 qE] 42) := ⟨_, rfl⟩
  have K00 := Lib.hid (show Kp w W0 by rw [hW]; exact ((Kp.alloc _ _).trans (Kp.alloc _ _)).trans (Kp.alloc _ _))
  have HB := Lib.hid (fun w1 (k : Kp W0 w1) => show w1.cell? ⟨w.heap.size, 0, none⟩ = some (.int .i64 kx) ∧ w1.cell? ⟨w.heap.size, 1, none⟩ = some (.int .i64 pkx) ∧ w1.cell? ⟨w.heap.size, 2, none⟩ = some (.string yx) ∧ w1.cell? ⟨w.heap.size, 3, none⟩ = some (.string mx) ∧ w1.cell? ⟨w.heap.size, 4, none⟩ = some (.string qx) ∧ w1.cell? ⟨w.heap.size, 5, none⟩ = some (.bool ax) ∧ w1.cell? ⟨w.heap.size, 6, none⟩ = some (.bool tx) ∧ w1.cell? ⟨w.heap.size, 7, none⟩ = some (.slice adx lx.length cpx) ∧ w1.cell? ⟨w.heap.size + 1, 0, none⟩ = some (.int .i64 kz) ∧ w1.cell? ⟨w.heap.size + 1, 1, none⟩ = some (.int .i64 pkz) ∧ w1.cell? ⟨w.heap.size + 1, 2, none⟩ = some (.string yz) ∧ w1.cell? ⟨w.heap.size + 1, 3, none⟩ = some (.string mz) ∧ w1.cell? ⟨w.heap.size + 1, 4, none⟩ = some (.string qz) ∧ w1.cell? ⟨w.heap.size + 1, 5, none⟩ = some (.bool az) ∧ w1.cell? ⟨w.heap.size + 1, 6, none⟩ = some (.bool tz) ∧ w1.cell? ⟨w.heap.size + 1, 7, none⟩ = some (.slice adz lz.length cpz) ∧ w1.cell? ⟨w.heap.size + 1 + 1, 0, none⟩ = some (.int .i64 qS) ∧ w1.cell? ⟨w.heap.size + 1 + 1, 1, none⟩ = some (.int .i64 qE) from ⟨cell_up k (show W0.cell? ⟨w.heap.size, 0, none⟩ = some (.int .i64 kx) by rw [hW]; go_simp), cell_up k (show W0.cell? ⟨w.heap.size, 1, none⟩ = some (.int .i64 pkx) by rw [hW]; go_simp), cell_up k (show W0.cell? ⟨w.heap.size, 2, none⟩ = some (.string yx) by rw [hW]; go_simp), cell_up k (show W0.cell? ⟨w.heap.size, 3, none⟩ = some (.string mx) by rw [hW]; go_simp), cell_up k (show W0.cell? ⟨w.heap.size, 4, none⟩ = some (.string qx) by rw [hW]; go_simp), cell_up k (show W0.cell? ⟨w.heap.size, 5, none⟩ = some (.bool ax) by rw [hW]; go_simp), cell_up k (show W0.cell? ⟨w.heap.size, 6, none⟩ = some (.bool tx) by rw [hW]; go_simp), cell_up k (show W0.cell? ⟨w.heap.size, 7, none⟩ = some (.slice adx lx.length cpx) by rw [hW]; go_simp), cell_up k (show W0.cell? ⟨w.heap.size + 1, 0, none⟩ = some (.int .i64 kz) by rw [hW]; go_simp), cell_up k (show W0.cell? ⟨w.heap.size + 1, 1, none⟩ = some (.int .i64 pkz) by rw [hW]; go_simp), cell_up k (show W0.cell? ⟨w.heap.size + 1, 2, none⟩ = some (.string yz) by rw [hW]; go_simp), cell_up k (show W0.cell? ⟨w.heap.size + 1, 3, none⟩ = some (.string mz) by rw [hW]; go_simp), cell_up k (show W0.cell? ⟨w.heap.size + 1, 4, none⟩ = some (.string qz) by rw [hW]; go_simp), cell_up k (show W0.cell? ⟨w.heap.size + 1, 5, none⟩ = some (.bool az) by rw [hW]; go_simp), cell_up k (show W0.cell? ⟨w.heap.size + 1, 6, none⟩ = some (.bool tz) by rw [hW]; go_simp), cell_up k (show W0.cell? ⟨w.heap.size + 1, 7, none⟩ = some (.slice adz lz.length cpz) by rw [hW]; go_simp), cell_up k (show W0.cell? ⟨w.heap.size + 1 + 1, 0, none⟩ = some (.int .i64 qS) by rw [hW]; go_simp), cell_up k (show W0.cell? ⟨w.heap.size + 1 + 1, 1, none⟩ = some (.int .i64 qE) by rw [hW]; go_simp)⟩)
  obtain ⟨c0, c1, c2, c3, c4, c5, c6, c7, c8, c9, c10, c11, c12, c13, c14, c15, c16, c17⟩ := HB.out W0 (Kp.refl _)
  have K0 := Lib.hid (Kp.refl W0)
  have HW := Lib.hid hW
  clear hW
  go_enter Tryz.func6, Tryz.ntmps6
  go_wp2_with fail
  rw [← HW.out]
  refine (AW.out _ (K00.out.trans (by first | with_reducible exact K0.out | with_reducible exact K0.out.trans (Kp.alloc _ _) | with_reducible exact (K0.out.trans (Kp.alloc _ _)).trans (Kp.alloc _ _) | with_reducible exact ((K0.out.trans (Kp.alloc _ _)).trans (Kp.alloc _ _)).trans (Kp.alloc _ _) | with_reducible exact K0.out.trans (Kp.drew _) | with_reducible exact K0.out.trans (Kp.drewN _ _)))).mono ?_
  rintro e w1 ⟨rfl, kk⟩
  have K1 := Lib.hid ((show Kp W0 _ from (by first | with_reducible exact K0.out | with_reducible exact K0.out.trans (Kp.alloc _ _) | with_reducible exact (K0.out.trans (Kp.alloc _ _)).trans (Kp.alloc _ _) | with_reducible exact ((K0.out.trans (Kp.alloc _ _)).trans (Kp.alloc _ _)).trans (Kp.alloc _ _) | with_reducible exact K0.out.trans (Kp.drew _) | with_reducible exact K0.out.trans (Kp.drewN _ _))).trans kk)
  clear kk
  clear c0 c1 c2 c3 c4 c5 c6 c7 c8 c9 c10 c11 c12 c13 c14 c15 c16 c17
  obtain ⟨c0, c1, c2, c3, c4, c5, c6, c7, c8, c9, c10, c11, c12, c13, c14, c15, c16, c17⟩ := HB.out w1 K1.out
  go_wp2_with fail
  refine (BT.out _ (K00.out.trans (by first | with_reducible exact K1.out | with_reducible exact K1.out.trans (Kp.alloc _ _) | with_reducible exact (K1.out.trans (Kp.alloc _ _)).trans (Kp.alloc _ _) | with_reducible exact ((K1.out.trans (Kp.alloc _ _)).trans (Kp.alloc _ _)).trans (Kp.alloc _ _) | with_reducible exact K1.out.trans (Kp.drew _) | with_reducible exact K1.out.trans (Kp.drewN _ _)))).mono ?_
  rintro e w2 ⟨s, rfl, hs2, kk⟩
  have K2 := Lib.hid ((show Kp W0 _ from (by first | with_reducible exact K1.out | with_reducible exact K1.out.trans (Kp.alloc _ _) | with_reducible exact (K1.out.trans (Kp.alloc _ _)).trans (Kp.alloc _ _) | with_reducible exact ((K1.out.trans (Kp.alloc _ _)).trans (Kp.alloc _ _)).trans (Kp.alloc _ _) | with_reducible exact K1.out.trans (Kp.drew _) | with_reducible exact K1.out.trans (Kp.drewN _ _))).trans kk)
  have NS2 := Lib.hid hs2
  obtain ⟨ads, cps, rfl⟩ := hs2.slice
  clear kk hs2
  clear c0 c1 c2 c3 c4 c5 c6 c7 c8 c9 c10 c11 c12 c13 c14 c15 c16 c17
  obtain ⟨c0, c1, c2, c3, c4, c5, c6, c7, c8, c9, c10, c11, c12, c13, c14, c15, c16, c17⟩ := HB.out w2 K2.out
  obtain ⟨w3, hV⟩ : ∃ x, x = w2.alloc (.cells #[.int .i64 1, .int .i64 0, .string ⟨#[]⟩, .string ⟨#[]⟩, .string ⟨#[]⟩, .bool false, .bool false, .slice ads 2 cps] 26) := ⟨_, rfl⟩
  have ka : Kp w2 w3 := by rw [hV]; exact Kp.alloc _ _
  have hgq : w3.heap[w2.heap.size]? = some (.cells #[.int .i64 1, .int .i64 0, .string ⟨#[]⟩, .string ⟨#[]⟩, .string ⟨#[]⟩, .bool false, .bool false, .slice ads 2 cps] 26 (0, 0)) := by rw [hV]; exact heap_at _ _ _ rfl
  have q0 : w3.cell? ⟨w2.heap.size, 0, none⟩ = some (.int .i64 1) := by simp [World.cell?, hgq]
  have q1 : w3.cell? ⟨w2.heap.size, 1, none⟩ = some (.int .i64 0) := by simp [World.cell?, hgq]
  have q2 : w3.cell? ⟨w2.heap.size, 2, none⟩ = some (.string ⟨#[]⟩) := by simp [World.cell?, hgq]
  have q3 : w3.cell? ⟨w2.heap.size, 3, none⟩ = some (.string ⟨#[]⟩) := by simp [World.cell?, hgq]
  have q4 : w3.cell? ⟨w2.heap.size, 4, none⟩ = some (.string ⟨#[]⟩) := by simp [World.cell?, hgq]
  have q5 : w3.cell? ⟨w2.heap.size, 5, none⟩ = some (.bool false) := by simp [World.cell?, hgq]
  have q6 : w3.cell? ⟨w2.heap.size, 6, none⟩ = some (.bool false) := by simp [World.cell?, hgq]
  have q7 : w3.cell? ⟨w2.heap.size, 7, none⟩ = some (.slice ads 2 cps) := by simp [World.cell?, hgq]
  have HB2 := Lib.hid (fun w1 (k : Kp w3 w1) => show w1.cell? ⟨w.heap.size, 0, none⟩ = some (.int .i64 kx) ∧ w1.cell? ⟨w.heap.size, 1, none⟩ = some (.int .i64 pkx) ∧ w1.cell? ⟨w.heap.size, 2, none⟩ = some (.string yx) ∧ w1.cell? ⟨w.heap.size, 3, none⟩ = some (.string mx) ∧ w1.cell? ⟨w.heap.size, 4, none⟩ = some (.string qx) ∧ w1.cell? ⟨w.heap.size, 5, none⟩ = some (.bool ax) ∧ w1.cell? ⟨w.heap.size, 6, none⟩ = some (.bool tx) ∧ w1.cell? ⟨w.heap.size, 7, none⟩ = some (.slice adx lx.length cpx) ∧ w1.cell? ⟨w.heap.size + 1, 0, none⟩ = some (.int .i64 kz) ∧ w1.cell? ⟨w.heap.size + 1, 1, none⟩ = some (.int .i64 pkz) ∧ w1.cell? ⟨w.heap.size + 1, 2, none⟩ = some (.string yz) ∧ w1.cell? ⟨w.heap.size + 1, 3, none⟩ = some (.string mz) ∧ w1.cell? ⟨w.heap.size + 1, 4, none⟩ = some (.string qz) ∧ w1.cell? ⟨w.heap.size + 1, 5, none⟩ = some (.bool az) ∧ w1.cell? ⟨w.heap.size + 1, 6, none⟩ = some (.bool tz) ∧ w1.cell? ⟨w.heap.size + 1, 7, none⟩ = some (.slice adz lz.length cpz) ∧ w1.cell? ⟨w.heap.size + 1 + 1, 0, none⟩ = some (.int .i64 qS) ∧ w1.cell? ⟨w.heap.size + 1 + 1, 1, none⟩ = some (.int .i64 qE) ∧ w1.cell? ⟨w2.heap.size, 0, none⟩ = some (.int .i64 1) ∧ w1.cell? ⟨w2.heap.size, 1, none⟩ = some (.int .i64 0) ∧ w1.cell? ⟨w2.heap.size, 2, none⟩ = some (.string ⟨#[]⟩) ∧ w1.cell? ⟨w2.heap.size, 3, none⟩ = some (.string ⟨#[]⟩) ∧ w1.cell? ⟨w2.heap.size, 4, none⟩ = some (.string ⟨#[]⟩) ∧ w1.cell? ⟨w2.heap.size, 5, none⟩ = some (.bool false) ∧ w1.cell? ⟨w2.heap.size, 6, none⟩ = some (.bool false) ∧ w1.cell? ⟨w2.heap.size, 7, none⟩ = some (.slice ads 2 cps) from ⟨(HB.out w1 (K2.out.trans (ka.trans k))).1, (HB.out w1 (K2.out.trans (ka.trans k))).2.1, (HB.out w1 (K2.out.trans (ka.trans k))).2.2.1, (HB.out w1 (K2.out.trans (ka.trans k))).2.2.2.1, (HB.out w1 (K2.out.trans (ka.trans k))).2.2.2.2.1, (HB.out w1 (K2.out.trans (ka.trans k))).2.2.2.2.2.1, (HB.out w1 (K2.out.trans (ka.trans k))).2.2.2.2.2.2.1, (HB.out w1 (K2.out.trans (ka.trans k))).2.2.2.2.2.2.2.1, (HB.out w1 (K2.out.trans (ka.trans k))).2.2.2.2.2.2.2.2.1, (HB.out w1 (K2.out.trans (ka.trans k))).2.2.2.2.2.2.2.2.2.1, (HB.out w1 (K2.out.trans (ka.trans k))).2.2.2.2.2.2.2.2.2.2.1, (HB.out w1 (K2.out.trans (ka.trans k))).2.2.2.2.2.2.2.2.2.2.2.1, (HB.out w1 (K2.out.trans (ka.trans k))).2.2.2.2.2.2.2.2.2.2.2.2.1, (HB.out w1 (K2.out.trans (ka.trans k))).2.2.2.2.2.2.2.2.2.2.2.2.2.1, (HB.out w1 (K2.out.trans (ka.trans k))).2.2.2.2.2.2.2.2.2.2.2.2.2.2.1, (HB.out w1 (K2.out.trans (ka.trans k))).2.2.2.2.2.2.2.2.2.2.2.2.2.2.2.1, (HB.out w1 (K2.out.trans (ka.trans k))).2.2.2.2.2.2.2.2.2.2.2.2.2.2.2.2.1, (HB.out w1 (K2.out.trans (ka.trans k))).2.2.2.2.2.2.2.2.2.2.2.2.2.2.2.2.2, cell_up k q0, cell_up k q1, cell_up k q2, cell_up k q3, cell_up k q4, cell_up k q5, cell_up k q6, cell_up k q7⟩)
  have K01 := Lib.hid (K00.out.trans (K2.out.trans ka))
  have NS3 := Lib.hid (NS2.out.kp ka)
  clear HB K00 hgq c0 c1 c2 c3 c4 c5 c6 c7 c8 c9 c10 c11 c12 c13 c14 c15 c16 c17 q0 q1 q2 q3 q4 q5 q6 q7
  have HB := HB2
  have K00 := K01
  clear HB2 K01
  have K3 := Lib.hid (Kp.refl w3)
  have Hw3 := Lib.hid hV
  clear hV ka
  go_wp2_with fail
  rw [← Hw3.out]
  obtain ⟨c0, c1, c2, c3, c4, c5, c6, c7, c8, c9, c10, c11, c12, c13, c14, c15, c16, c17, c18, c19, c20, c21, c22, c23, c24, c25⟩ := HB.out w3 (Kp.refl _)
  go_wp2_with fail
  refine (SM.out _ _ (NS3.out.kp (by first | with_reducible exact Kp.refl _ | with_reducible exact Kp.alloc _ _ | with_reducible exact (Kp.alloc _ _).trans (Kp.alloc _ _) | with_reducible exact ((Kp.alloc _ _).trans (Kp.alloc _ _)).trans (Kp.alloc _ _) | with_reducible exact Kp.drew _ | with_reducible exact Kp.drewN _ _))).mono ?_
  rintro e w4 ⟨⟨b, hb, rfl⟩, kk⟩
  have K4 := Lib.hid ((show Kp w3 _ from (by first | with_reducible exact K3.out | with_reducible exact K3.out.trans (Kp.alloc _ _) | with_reducible exact (K3.out.trans (Kp.alloc _ _)).trans (Kp.alloc _ _) | with_reducible exact ((K3.out.trans (Kp.alloc _ _)).trans (Kp.alloc _ _)).trans (Kp.alloc _ _) | with_reducible exact K3.out.trans (Kp.drew _) | with_reducible exact K3.out.trans (Kp.drewN _ _))).trans kk)
  clear kk c0 c1 c2 c3 c4 c5 c6 c7 c8 c9 c10 c11 c12 c13 c14 c15 c16 c17 c18 c19 c20 c21 c22 c23 c24 c25
  obtain ⟨c0, c1, c2, c3, c4, c5, c6, c7, c8, c9, c10, c11, c12, c13, c14, c15, c16, c17, c18, c19, c20, c21, c22, c23, c24, c25⟩ := HB.out w4 K4.out
  rcases hb with rfl | rfl
  rotate_left
  · go_wp2
    go_ret
    exact ⟨rfl, K00.out.trans K4.out⟩
  go_wp2_with fail
  refine (SN.out _ _ (NS3.out.kp (by first | with_reducible exact K4.out | with_reducible exact K4.out.trans (Kp.alloc _ _) | with_reducible exact (K4.out.trans (Kp.alloc _ _)).trans (Kp.alloc _ _) | with_reducible exact ((K4.out.trans (Kp.alloc _ _)).trans (Kp.alloc _ _)).trans (Kp.alloc _ _) | with_reducible exact K4.out.trans (Kp.drew _) | with_reducible exact K4.out.trans (Kp.drewN _ _))) (K00.out.trans (by first | with_reducible exact K4.out | with_reducible exact K4.out.trans (Kp.alloc _ _) | with_reducible exact (K4.out.trans (Kp.alloc _ _)).trans (Kp.alloc _ _) | with_reducible exact ((K4.out.trans (Kp.alloc _ _)).trans (Kp.alloc _ _)).trans (Kp.alloc _ _) | with_reducible exact K4.out.trans (Kp.drew _) | with_reducible exact K4.out.trans (Kp.drewN _ _)))).mono ?_
  rintro e w5 ⟨rfl, kk⟩
  have K5 := Lib.hid ((show Kp w3 _ from (by first | with_reducible exact K4.out | with_reducible exact K4.out.trans (Kp.alloc _ _) | with_reducible exact (K4.out.trans (Kp.alloc _ _)).trans (Kp.alloc _ _) | with_reducible exact ((K4.out.trans (Kp.alloc _ _)).trans (Kp.alloc _ _)).trans (Kp.alloc _ _) | with_reducible exact K4.out.trans (Kp.drew _) | with_reducible exact K4.out.trans (Kp.drewN _ _))).trans kk)
  clear kk
  clear c0 c1 c2 c3 c4 c5 c6 c7 c8 c9 c10 c11 c12 c13 c14 c15 c16 c17 c18 c19 c20 c21 c22 c23 c24 c25
  obtain ⟨c0, c1, c2, c3, c4, c5, c6, c7, c8, c9, c10, c11, c12, c13, c14, c15, c16, c17, c18, c19, c20, c21, c22, c23, c24, c25⟩ := HB.out w5 K5.out
  go_wp2_with fail
  refine (OF.out _ _ (NS3.out.kp (by first | with_reducible exact K5.out | with_reducible exact K5.out.trans (Kp.alloc _ _) | with_reducible exact (K5.out.trans (Kp.alloc _ _)).trans (Kp.alloc _ _) | with_reducible exact ((K5.out.trans (Kp.alloc _ _)).trans (Kp.alloc _ _)).trans (Kp.alloc _ _) | with_reducible exact K5.out.trans (Kp.drew _) | with_reducible exact K5.out.trans (Kp.drewN _ _))) (K00.out.trans (by first | with_reducible exact K5.out | with_reducible exact K5.out.trans (Kp.alloc _ _) | with_reducible exact (K5.out.trans (Kp.alloc _ _)).trans (Kp.alloc _ _) | with_reducible exact ((K5.out.trans (Kp.alloc _ _)).trans (Kp.alloc _ _)).trans (Kp.alloc _ _) | with_reducible exact K5.out.trans (Kp.drew _) | with_reducible exact K5.out.trans (Kp.drewN _ _)))).mono ?_
  rintro e w6 ⟨v7, rfl, h7, kk⟩
  have K6 := Lib.hid ((show Kp w3 _ from (by first | with_reducible exact K5.out | with_reducible exact K5.out.trans (Kp.alloc _ _) | with_reducible exact (K5.out.trans (Kp.alloc _ _)).trans (Kp.alloc _ _) | with_reducible exact ((K5.out.trans (Kp.alloc _ _)).trans (Kp.alloc _ _)).trans (Kp.alloc _ _) | with_reducible exact K5.out.trans (Kp.drew _) | with_reducible exact K5.out.trans (Kp.drewN _ _))).trans kk)
  have LV := Lib.hid h7
  obtain ⟨ad7, cp7, rfl⟩ := h7.slice
  clear kk h7
  clear c0 c1 c2 c3 c4 c5 c6 c7 c8 c9 c10 c11 c12 c13 c14 c15 c16 c17 c18 c19 c20 c21 c22 c23 c24 c25
  obtain ⟨c0, c1, c2, c3, c4, c5, c6, c7, c8, c9, c10, c11, c12, c13, c14, c15, c16, c17, c18, c19, c20, c21, c22, c23, c24, c25⟩ := HB.out w6 K6.out
  have KS := Lib.hid (fun w' (kq : Kp w6 w') => show w'.cell? ⟨w.heap.size, 0, none⟩ = some (.int .i64 kx) ∧ w'.cell? ⟨w.heap.size, 1, none⟩ = some (.int .i64 pkx) ∧ w'.cell? ⟨w.heap.size, 2, none⟩ = some (.string yx) ∧ w'.cell? ⟨w.heap.size, 3, none⟩ = some (.string mx) ∧ w'.cell? ⟨w.heap.size, 4, none⟩ = some (.string qx) ∧ w'.cell? ⟨w.heap.size, 5, none⟩ = some (.bool ax) ∧ w'.cell? ⟨w.heap.size, 6, none⟩ = some (.bool tx) ∧ w'.cell? ⟨w.heap.size, 7, none⟩ = some (.slice adx lx.length cpx) ∧ w'.cell? ⟨w.heap.size + 1, 0, none⟩ = some (.int .i64 kz) ∧ w'.cell? ⟨w.heap.size + 1, 1, none⟩ = some (.int .i64 pkz) ∧ w'.cell? ⟨w.heap.size + 1, 2, none⟩ = some (.string yz) ∧ w'.cell? ⟨w.heap.size + 1, 3, none⟩ = some (.string mz) ∧ w'.cell? ⟨w.heap.size + 1, 4, none⟩ = some (.string qz) ∧ w'.cell? ⟨w.heap.size + 1, 5, none⟩ = some (.bool az) ∧ w'.cell? ⟨w.heap.size + 1, 6, none⟩ = some (.bool tz) ∧ w'.cell? ⟨w.heap.size + 1, 7, none⟩ = some (.slice adz lz.length cpz) ∧ w'.cell? ⟨w.heap.size + 1 + 1, 0, none⟩ = some (.int .i64 qS) ∧ w'.cell? ⟨w.heap.size + 1 + 1, 1, none⟩ = some (.int .i64 qE) ∧ w'.cell? ⟨w2.heap.size, 0, none⟩ = some (.int .i64 1) ∧ w'.cell? ⟨w2.heap.size, 1, none⟩ = some (.int .i64 0) ∧ w'.cell? ⟨w2.heap.size, 2, none⟩ = some (.string ⟨#[]⟩) ∧ w'.cell? ⟨w2.heap.size, 3, none⟩ = some (.string ⟨#[]⟩) ∧ w'.cell? ⟨w2.heap.size, 4, none⟩ = some (.string ⟨#[]⟩) ∧ w'.cell? ⟨w2.heap.size, 5, none⟩ = some (.bool false) ∧ w'.cell? ⟨w2.heap.size, 6, none⟩ = some (.bool false) ∧ w'.cell? ⟨w2.heap.size, 7, none⟩ = some (.slice ads 2 cps) ∧ Kp w6 w' from ⟨(HB.out w' (K6.out.trans kq)).1, (HB.out w' (K6.out.trans kq)).2.1, (HB.out w' (K6.out.trans kq)).2.2.1, (HB.out w' (K6.out.trans kq)).2.2.2.1, (HB.out w' (K6.out.trans kq)).2.2.2.2.1, (HB.out w' (K6.out.trans kq)).2.2.2.2.2.1, (HB.out w' (K6.out.trans kq)).2.2.2.2.2.2.1, (HB.out w' (K6.out.trans kq)).2.2.2.2.2.2.2.1, (HB.out w' (K6.out.trans kq)).2.2.2.2.2.2.2.2.1, (HB.out w' (K6.out.trans kq)).2.2.2.2.2.2.2.2.2.1, (HB.out w' (K6.out.trans kq)).2.2.2.2.2.2.2.2.2.2.1, (HB.out w' (K6.out.trans kq)).2.2.2.2.2.2.2.2.2.2.2.1, (HB.out w' (K6.out.trans kq)).2.2.2.2.2.2.2.2.2.2.2.2.1, (HB.out w' (K6.out.trans kq)).2.2.2.2.2.2.2.2.2.2.2.2.2.1, (HB.out w' (K6.out.trans kq)).2.2.2.2.2.2.2.2.2.2.2.2.2.2.1, (HB.out w' (K6.out.trans kq)).2.2.2.2.2.2.2.2.2.2.2.2.2.2.2.1, (HB.out w' (K6.out.trans kq)).2.2.2.2.2.2.2.2.2.2.2.2.2.2.2.2.1, (HB.out w' (K6.out.trans kq)).2.2.2.2.2.2.2.2.2.2.2.2.2.2.2.2.2.1, (HB.out w' (K6.out.trans kq)).2.2.2.2.2.2.2.2.2.2.2.2.2.2.2.2.2.2.1, (HB.out w' (K6.out.trans kq)).2.2.2.2.2.2.2.2.2.2.2.2.2.2.2.2.2.2.2.1, (HB.out w' (K6.out.trans kq)).2.2.2.2.2.2.2.2.2.2.2.2.2.2.2.2.2.2.2.2.1, (HB.out w' (K6.out.trans kq)).2.2.2.2.2.2.2.2.2.2.2.2.2.2.2.2.2.2.2.2.2.1, (HB.out w' (K6.out.trans kq)).2.2.2.2.2.2.2.2.2.2.2.2.2.2.2.2.2.2.2.2.2.2.1, (HB.out w' (K6.out.trans kq)).2.2.2.2.2.2.2.2.2.2.2.2.2.2.2.2.2.2.2.2.2.2.2.1, (HB.out w' (K6.out.trans kq)).2.2.2.2.2.2.2.2.2.2.2.2.2.2.2.2.2.2.2.2.2.2.2.2.1, (HB.out w' (K6.out.trans kq)).2.2.2.2.2.2.2.2.2.2.2.2.2.2.2.2.2.2.2.2.2.2.2.2.2, kq⟩)
  go_wp2_with fail
  refine wp_region_held_drew (S := fun w' => w'.cell? ⟨w.heap.size, 0, none⟩ = some (.int .i64 kx) ∧ w'.cell? ⟨w.heap.size, 1, none⟩ = some (.int .i64 pkx) ∧ w'.cell? ⟨w.heap.size, 2, none⟩ = some (.string yx) ∧ w'.cell? ⟨w.heap.size, 3, none⟩ = some (.string mx) ∧ w'.cell? ⟨w.heap.size, 4, none⟩ = some (.string qx) ∧ w'.cell? ⟨w.heap.size, 5, none⟩ = some (.bool ax) ∧ w'.cell? ⟨w.heap.size, 6, none⟩ = some (.bool tx) ∧ w'.cell? ⟨w.heap.size, 7, none⟩ = some (.slice adx lx.length cpx) ∧ w'.cell? ⟨w.heap.size + 1, 0, none⟩ = some (.int .i64 kz) ∧ w'.cell? ⟨w.heap.size + 1, 1, none⟩ = some (.int .i64 pkz) ∧ w'.cell? ⟨w.heap.size + 1, 2, none⟩ = some (.string yz) ∧ w'.cell? ⟨w.heap.size + 1, 3, none⟩ = some (.string mz) ∧ w'.cell? ⟨w.heap.size + 1, 4, none⟩ = some (.string qz) ∧ w'.cell? ⟨w.heap.size + 1, 5, none⟩ = some (.bool az) ∧ w'.cell? ⟨w.heap.size + 1, 6, none⟩ = some (.bool tz) ∧ w'.cell? ⟨w.heap.size + 1, 7, none⟩ = some (.slice adz lz.length cpz) ∧ w'.cell? ⟨w.heap.size + 1 + 1, 0, none⟩ = some (.int .i64 qS) ∧ w'.cell? ⟨w.heap.size + 1 + 1, 1, none⟩ = some (.int .i64 qE) ∧ w'.cell? ⟨w2.heap.size, 0, none⟩ = some (.int .i64 1) ∧ w'.cell? ⟨w2.heap.size, 1, none⟩ = some (.int .i64 0) ∧ w'.cell? ⟨w2.heap.size, 2, none⟩ = some (.string ⟨#[]⟩) ∧ w'.cell? ⟨w2.heap.size, 3, none⟩ = some (.string ⟨#[]⟩) ∧ w'.cell? ⟨w2.heap.size, 4, none⟩ = some (.string ⟨#[]⟩) ∧ w'.cell? ⟨w2.heap.size, 5, none⟩ = some (.bool false) ∧ w'.cell? ⟨w2.heap.size, 6, none⟩ = some (.bool false) ∧ w'.cell? ⟨w2.heap.size, 7, none⟩ = some (.slice ads 2 cps) ∧ Kp w6 w') (by kernel_rfl) ?_ (fun hHeld0 => ?_)
  · (try dsimp only); exact KS.out _ (by first | assumption | exact Kp.drew _)
  refine tkW (v := ?_) 0 spA0 rfl (by kernel_rfl) (by kernel_rfl) (by kernel_rfl) (fun _ _ _ h => h) (by rfl) ?_ (by assumption) ?_
  rotate_left
  · intro w hSw; (try dsimp only at hSw); go_simp; (try with_reducible rfl)
  (try simp only [Act.put, spA0, List.setIfInBounds_toArray, List.set_cons_zero, List.set_cons_succ])
  refine tkW (v := ?_) 1 spA1 rfl (by kernel_rfl) (by kernel_rfl) (by kernel_rfl) (fun _ _ _ h => h) (by rfl) ?_ (by assumption) ?_
  rotate_left
  · intro w hSw; (try dsimp only at hSw); go_simp; (try with_reducible rfl)
  (try simp only [Act.put, spA1, List.setIfInBounds_toArray, List.set_cons_zero, List.set_cons_succ])
  refine tkW (v := ?_) 2 spA2 rfl (by kernel_rfl) (by kernel_rfl) (by kernel_rfl) (fun _ _ _ h => h) (by rfl) ?_ (by assumption) ?_
  rotate_left
  · intro w hSw; (try dsimp only at hSw); go_simp; (try with_reducible rfl)
  (try simp only [Act.put, spA2, List.setIfInBounds_toArray, List.set_cons_zero, List.set_cons_succ])
  refine tkW (v := ?_) 3 spA3 rfl (by kernel_rfl) (by kernel_rfl) (by kernel_rfl) (fun _ _ _ h => h) (by rfl) ?_ (by assumption) ?_
  rotate_left
  · intro w hSw; (try dsimp only at hSw); go_simp; (try with_reducible rfl)
  (try simp only [Act.put, spA3, List.setIfInBounds_toArray, List.set_cons_zero, List.set_cons_succ])
  refine tkW (v := ?_) 4 spA4 rfl (by kernel_rfl) (by kernel_rfl) (by kernel_rfl) (fun _ _ _ h => h) (by rfl) ?_ (by assumption) ?_
  rotate_left
  · intro w hSw; (try dsimp only at hSw); go_simp; (try with_reducible rfl)
  (try simp only [Act.put, spA4, List.setIfInBounds_toArray, List.set_cons_zero, List.set_cons_succ])
  refine tkW (v := ?_) 5 spA5 rfl (by kernel_rfl) (by kernel_rfl) (by kernel_rfl) (fun _ _ _ h => h) (by rfl) ?_ (by assumption) ?_
  rotate_left
  · intro w hSw; (try dsimp only at hSw); go_simp; (try with_reducible rfl)
  (try simp only [Act.put, spA5, List.setIfInBounds_toArray, List.set_cons_zero, List.set_cons_succ])
  refine tkW (v := ?_) 6 spA6 rfl (by kernel_rfl) (by kernel_rfl) (by kernel_rfl) (fun _ _ _ h => h) (by rfl) ?_ (by assumption) ?_
  rotate_left
  · intro w hSw; (try dsimp only at hSw); go_simp; (try with_reducible rfl)
  (try simp only [Act.put, spA6, List.setIfInBounds_toArray, List.set_cons_zero, List.set_cons_succ])
  refine tkW (v := ?_) 7 spA7 rfl (by kernel_rfl) (by kernel_rfl) (by kernel_rfl) (fun _ _ _ h => h) (by rfl) ?_ (by assumption) ?_
  rotate_left
  · intro w hSw; (try dsimp only at hSw); go_simp; (try with_reducible rfl)
  (try simp only [Act.put, spA7, List.setIfInBounds_toArray, List.set_cons_zero, List.set_cons_succ])
  refine tkW (v := ?_) 8 spA8 rfl (by kernel_rfl) (by kernel_rfl) (by kernel_rfl) (fun _ _ _ h => h) (by rfl) ?_ (by assumption) ?_
  rotate_left
  · intro w hSw; (try dsimp only at hSw); go_simp; (try with_reducible rfl)
  (try simp only [Act.put, spA8, List.setIfInBounds_toArray, List.set_cons_zero, List.set_cons_succ])
  refine tkW (v := ?_) 10 spA10 rfl (by kernel_rfl) (by kernel_rfl) (by kernel_rfl) (fun _ _ _ h => h) (by rfl) ?_ (by assumption) ?_
  rotate_left
  · intro w hSw; (try dsimp only at hSw); go_simp; (try with_reducible rfl)
  (try simp only [Act.put, spA10, List.setIfInBounds_toArray, List.set_cons_zero, List.set_cons_succ])
  refine tkW (v := ?_) 11 spA11 rfl (by kernel_rfl) (by kernel_rfl) (by kernel_rfl) (fun _ _ _ h => h) (by rfl) ?_ (by assumption) ?_
  rotate_left
  · intro w hSw; (try dsimp only at hSw); go_simp; (try with_reducible rfl)
  (try simp only [Act.put, spA11, List.setIfInBounds_toArray, List.set_cons_zero, List.set_cons_succ])
  refine tkW (v := ?_) 12 spA12 rfl (by kernel_rfl) (by kernel_rfl) (by kernel_rfl) (fun _ _ _ h => h) (by rfl) ?_ (by assumption) ?_
  rotate_left
  · intro w hSw; (try dsimp only at hSw); go_simp; (try with_reducible rfl)
  (try simp only [Act.put, spA12, List.setIfInBounds_toArray, List.set_cons_zero, List.set_cons_succ])
  refine tkW (v := ?_) 13 spA13 rfl (by kernel_rfl) (by kernel_rfl) (by kernel_rfl) (fun _ _ _ h => h) (by rfl) ?_ (by assumption) ?_
  rotate_left
  · intro w hSw; (try dsimp only at hSw); go_simp; (try with_reducible rfl)
  (try simp only [Act.put, spA13, List.setIfInBounds_toArray, List.set_cons_zero, List.set_cons_succ])
  refine tkW (v := ?_) 14 spA14 rfl (by kernel_rfl) (by kernel_rfl) (by kernel_rfl) (fun _ _ _ h => h) (by rfl) ?_ (by assumption) ?_
  rotate_left
  · intro w hSw; (try dsimp only at hSw); go_simp; (try with_reducible rfl)
  (try simp only [Act.put, spA14, List.setIfInBounds_toArray, List.set_cons_zero, List.set_cons_succ])
  refine tkE 9 spA9 rfl (by kernel_rfl) (fun K hK => ?_)
  go_simp
  (refine (HC.out _ _ (LV.out.kp (by first | assumption | exact Kp.drew _)) (K00.out.trans (K6.out.trans (by first | assumption | exact Kp.drew _)))).mono ?_; rintro e wa ⟨rfl, k1⟩; have k2 := Kp.trans (show Kp w6 _ from (by first | assumption | exact Kp.drew _)) k1; clear k1)
  (try go_wp2_with fail)
  refine hK.out _ _ ?_ (fun hHeld1 => ?_)
  · (try dsimp only); exact KS.out _ (by first | assumption | exact Kp.drew _)
  clear hK K hHeld0
  (try simp only [Act.put, spA9, List.setIfInBounds_toArray, List.set_cons_zero, List.set_cons_succ])
  refine tkW (v := ?_) 15 spA15 rfl (by kernel_rfl) (by kernel_rfl) (by kernel_rfl) (fun _ _ _ h => h) (by rfl) ?_ (by assumption) ?_
  rotate_left
  · intro w hSw; (try dsimp only at hSw); go_simp; (try with_reducible rfl)
  (try simp only [Act.put, spA15, List.setIfInBounds_toArray, List.set_cons_zero, List.set_cons_succ])
  refine tkW (v := ?_) 16 spA16 rfl (by kernel_rfl) (by kernel_rfl) (by kernel_rfl) (fun _ _ _ h => h) (by rfl) ?_ (by assumption) ?_
  rotate_left
  · intro w hSw; (try dsimp only at hSw); go_simp; (try with_reducible rfl)
  (try simp only [Act.put, spA16, List.setIfInBounds_toArray, List.set_cons_zero, List.set_cons_succ])
  refine tkW (v := ?_) 17 spA17 rfl (by kernel_rfl) (by kernel_rfl) (by kernel_rfl) (fun _ _ _ h => h) (by rfl) ?_ (by assumption) ?_
  rotate_left
  · intro w hSw; (try dsimp only at hSw); go_simp; (try with_reducible rfl)
  (try simp only [Act.put, spA17, List.setIfInBounds_toArray, List.set_cons_zero, List.set_cons_succ])
  refine tkW (v := ?_) 18 spA18 rfl (by kernel_rfl) (by kernel_rfl) (by kernel_rfl) (fun _ _ _ h => h) (by rfl) ?_ (by assumption) ?_
  rotate_left
  · intro w hSw; (try dsimp only at hSw); go_simp; (try with_reducible rfl)
  (try simp only [Act.put, spA18, List.setIfInBounds_toArray, List.set_cons_zero, List.set_cons_succ])
  refine tkE 19 spA19 rfl (by kernel_rfl) (fun K hK => ?_)
  go_simp
  (refine (STX.out _ (K00.out.trans (K6.out.trans (by first | assumption | exact Kp.drew _)))).mono ?_; rintro e wb ⟨rfl, k1⟩; have k2 := Kp.trans (show Kp w6 _ from (by first | assumption | exact Kp.drew _)) k1; clear k1)
  (try go_wp2_with fail)
  refine hK.out _ _ ?_ (fun hHeld2 => ?_)
  · (try dsimp only); exact KS.out _ (by first | assumption | exact Kp.drew _)
  clear hK K hHeld1
  (try simp only [Act.put, spA19, List.setIfInBounds_toArray, List.set_cons_zero, List.set_cons_succ])
  refine tkW (v := ?_) 20 spA20 rfl (by kernel_rfl) (by kernel_rfl) (by kernel_rfl) (fun _ _ _ h => h) (by rfl) ?_ (by assumption) ?_
  rotate_left
  · intro w hSw; (try dsimp only at hSw); go_simp; (try with_reducible rfl)
  (try simp only [Act.put, spA20, List.setIfInBounds_toArray, List.set_cons_zero, List.set_cons_succ])
  refine tkW (v := ?_) 21 spA21 rfl (by kernel_rfl) (by kernel_rfl) (by kernel_rfl) (fun _ _ _ h => h) (by rfl) ?_ (by assumption) ?_
  rotate_left
  · intro w hSw; (try dsimp only at hSw); go_simp; (try with_reducible rfl)
  (try simp only [Act.put, spA21, List.setIfInBounds_toArray, List.set_cons_zero, List.set_cons_succ])
  refine tkW (v := ?_) 22 spA22 rfl (by kernel_rfl) (by kernel_rfl) (by kernel_rfl) (fun _ _ _ h => h) (by rfl) ?_ (by assumption) ?_
  rotate_left
  · intro w hSw; (try dsimp only at hSw); go_simp; (try with_reducible rfl)
  (try simp only [Act.put, spA22, List.setIfInBounds_toArray, List.set_cons_zero, List.set_cons_succ])
  refine tkW (v := ?_) 23 spA23 rfl (by kernel_rfl) (by kernel_rfl) (by kernel_rfl) (fun _ _ _ h => h) (by rfl) ?_ (by assumption) ?_
  rotate_left
  · intro w hSw; (try dsimp only at hSw); go_simp; (try with_reducible rfl)
  (try simp only [Act.put, spA23, List.setIfInBounds_toArray, List.set_cons_zero, List.set_cons_succ])
  refine tkW (v := ?_) 24 spA24 rfl (by kernel_rfl) (by kernel_rfl) (by kernel_rfl) (fun _ _ _ h => h) (by rfl) ?_ (by assumption) ?_
  rotate_left
  · intro w hSw; (try dsimp only at hSw); go_simp; (try with_reducible rfl)
  (try simp only [Act.put, spA24, List.setIfInBounds_toArray, List.set_cons_zero, List.set_cons_succ])
  refine tkE 25 spA25 rfl (by kernel_rfl) (fun K hK => ?_)
  go_simp
  (refine (STZ.out _ (K00.out.trans (K6.out.trans (by first | assumption | exact Kp.drew _)))).mono ?_; rintro e wc ⟨rfl, k1⟩; have k2 := Kp.trans (show Kp w6 _ from (by first | assumption | exact Kp.drew _)) k1; clear k1)
  (try go_wp2_with fail)
  refine hK.out _ _ ?_ (fun hHeld3 => ?_)
  · (try dsimp only); exact KS.out _ (by first | assumption | exact Kp.drew _)
  clear hK K hHeld2
  (try simp only [Act.put, spA25, List.setIfInBounds_toArray, List.set_cons_zero, List.set_cons_succ])
  refine tkW (v := ?_) 26 spA26 rfl (by kernel_rfl) (by kernel_rfl) (by kernel_rfl) (fun _ _ _ h => h) (by rfl) ?_ (by assumption) ?_
  rotate_left
  · intro w hSw; (try dsimp only at hSw); go_simp; (try with_reducible rfl)
  (try simp only [Act.put, spA26, List.setIfInBounds_toArray, List.set_cons_zero, List.set_cons_succ])
  refine tkW (v := ?_) 27 spA27 rfl (by kernel_rfl) (by kernel_rfl) (by kernel_rfl) (fun _ _ _ h => h) (by rfl) ?_ (by assumption) ?_
  rotate_left
  · intro w hSw; (try dsimp only at hSw); go_simp; (try with_reducible rfl)
  (try simp only [Act.put, spA27, List.setIfInBounds_toArray, List.set_cons_zero, List.set_cons_succ])
  refine tkW (v := ?_) 28 spA28 rfl (by kernel_rfl) (by kernel_rfl) (by kernel_rfl) (fun _ _ _ h => h) (by rfl) ?_ (by assumption) ?_
  rotate_left
  · intro w hSw; (try dsimp only at hSw); go_simp; (try with_reducible rfl)
  (try simp only [Act.put, spA28, List.setIfInBounds_toArray, List.set_cons_zero, List.set_cons_succ])
  refine tkW (v := ?_) 29 spA29 rfl (by kernel_rfl) (by kernel_rfl) (by kernel_rfl) (fun _ _ _ h => h) (by rfl) ?_ (by assumption) ?_
  rotate_left
  · intro w hSw; (try dsimp only at hSw); go_simp; (try with_reducible rfl)
  (try simp only [Act.put, spA29, List.setIfInBounds_toArray, List.set_cons_zero, List.set_cons_succ])
  refine wpAnyH_done (by kernel_rfl) ?_ _
  go_wp2
  go_ret
  exact ⟨rfl, K00.out.trans (K6.out.trans k2)⟩
theorem dspan_of (x z : ND) (hs : saneN saneP (.mk 1 e15 false false [x, z] : ND) = true) : endN saneP x = true ∧ endN saneP z = true := by
  rcases dk_kind (sane_rightD hs) with ⟨p', a', t', e', hp⟩ | ⟨x', z', e', hx, hz⟩ | ⟨l', e', hl⟩ <;> injection e' with e1 e2 e3 e4 e5
  · omega
  · injection e5 with e6 e7
    injection e7 with e8 e9
    rw [e6, e8]
    exact ⟨hx, hz⟩
  · omega
theorem dspan_E (x z : ND) : dnE (.mk 1 e15 false false [x, z] : ND) = (if siE x = 0 then siE z else siE x) := by
  simp only [dnE]
  first | (rw [if_pos trivial]; rfl) | (rw [if_pos rfl]; rfl)
theorem denoteSpan_walk (x : ND) (ux : Value) (z : ND) (uz : Value) (qS qE : Int) (w : World) (hx : NodesAt w ux x.l) (hz : NodesAt w uz z.l) (hq1 : -9223372036854775808 ≤ qS) (hq2 : qS ≤ 9223372036854775807) (hq3 : -9223372036854775808 ≤ qE) (hq4 : qE ≤ 9223372036854775807) (T : Tabs8 w) :
    Calls Tryz.prog 6 #[ndV x ux, ndV z uz, .agg #[.int .i64 qS, .int .i64 qE]] w fun e w' => e = .returned (.bool true) ∧ Kp w w' := by
  rcases Bool.eq_false_or_eq_true (saneN saneP (.mk 1 e15 false false [x, z] : ND)) with hs | hs
  · obtain ⟨ex, ez⟩ := dspan_of x z hs
    have hE : ofE (.mk 1 e15 false false [x, z] : ND) = dnE (.mk 1 e15 false false [x, z] : ND) := by unfold ofE; rw [if_pos hs]
    rcases dnE_cases (sane_rightD hs) with hd | hd
    · have hS : ofS (.mk 1 e15 false false [x, z] : ND) = [⟨true, 0, staS x, endS z⟩] := by
        unfold ofS
        rw [if_pos ⟨hs, hd⟩]
        simp only [dnS]
        first | (rw [if_pos trivial]; rfl) | (rw [if_pos rfl]; rfl)
      have g := hd
      rw [dspan_E] at g
      have g2 : siE x = 0 ∧ siE z = 0 := by
        split at g
        · exact ⟨by assumption, g⟩
        · exact absurd g (by assumption)
      rw [hd] at hE
      rcases Bool.eq_false_or_eq_true (decide (qS ≤ qE)) with hb1 | hb1
      · rcases Bool.eq_false_or_eq_true (hasB (staS x) qS) with hb2 | hb2
        · exact dspan_y3 x ux z uz qS qE w hx hz hq1 hq2 hq3 hq4 T hs hE hS ex ez g2.1 g2.2 hb1 hb2
        · exact dspan_y2 x ux z uz qS qE w hx hz hq1 hq2 hq3 hq4 T hs hE hS ex ez g2.1 g2.2 hb1 hb2
      · exact dspan_y1 x ux z uz qS qE w hx hz hq1 hq2 hq3 hq4 T hs hE hS ex ez g2.1 g2.2 hb1
    · have hS : ofS (.mk 1 e15 false false [x, z] : ND) = [] := by unfold ofS; rw [if_neg (by rw [hd]; omega)]
      rw [hd] at hE
      exact dspan_wide x ux z uz qS qE w hx hz hq1 hq2 hq3 hq4 T hs hE hS
  · exact dspan_no x ux z uz qS qE w hx hz hq1 hq2 hq3 hq4 T hs
end Go.Proofs.YtmklpimaemogcaaGreatDoor

namespace Go.Proofs.YtmklpimaemogcaaGreatDoor.lawDenoteSpan
open Go.ChangeShapes Go.WideShapes Go.ChangeAt Go.RowKit
open Go.ChangeMaps (open_string shut_string)
open Go.Joins
set_option linter.unusedVariables false

theorem own : ownKnob Tryz.prog.godebug = none := by kernel_rfl
theorem laidOut : laidOutB Tryz.prog = true := by kernel_rfl

theorem cells42 : Tryz.prog.cellsOf 42 = 2 := by kernel_rfl
/-- A world for the witness: the settled one, each table holding what its initialiser lays. -/
noncomputable def laidWorld (os : Os) : World :=
  { World.holding Tryz.prog os ⟨#[], #[], []⟩ with heap := (((((World.holding Tryz.prog os ⟨#[], #[], []⟩).heap.modify 3 fun
      | .cells _ t frozen => .cells #[.int .i64 0, .int .i64 31, .int .i64 28, .int .i64 31, .int .i64 30, .int .i64 31, .int .i64 30, .int .i64 31, .int .i64 31, .int .i64 30, .int .i64 31, .int .i64 30, .int .i64 31] t frozen
      | o => o).modify 0 fun
      | .cells _ t frozen => .cells #[.int .i64 3652425, .int .i64 120000, .int .i64 40000, .int .i64 10000, .int .i64 1000, .int .i64 100] t frozen
      | o => o).modify 1 fun
      | .cells _ t frozen => .cells #[.int .i64 4, .int .i64 2, .int .i64 2, .int .i64 12, .string ⟨#[]⟩, .int .i64 4, .int .i64 2, .int .i64 0, .int .i64 12, .string ⟨#[]⟩, .int .i64 4, .int .i64 1, .int .i64 0, .int .i64 4, .string ⟨#[]⟩, .int .i64 4, .int .i64 0, .int .i64 0, .int .i64 0, .string ⟨#[]⟩, .int .i64 3, .int .i64 0, .int .i64 0, .int .i64 0, .string ⟨#[100]⟩, .int .i64 2, .int .i64 0, .int .i64 0, .int .i64 0, .string ⟨#[99]⟩] t frozen
      | o => o).modify 2 fun
      | .cells _ t frozen => .cells #[.int .i64 3, .int .i64 1, .int .i64 1, .int .i64 2, .int .i64 1, .int .i64 1] t frozen
      | o => o) }
theorem laid_met (os : Os) : laidMet Tryz.prog Rows.denoteSpanRow.laid ((laidWorld os).forCall (fun _ _ => 0) ⟨#[], #[.agg #[.int .i64 0, .int .i64 0, .string ByteArray.empty, .string ByteArray.empty, .string ByteArray.empty, .bool false, .bool false, .slice none 0 0], .agg #[.int .i64 0, .int .i64 0, .string ByteArray.empty, .string ByteArray.empty, .string ByteArray.empty, .bool false, .bool false, .slice none 0 0], .agg #[.int .i64 0, .int .i64 0]], []⟩).memory :=
  laidMet_of_run' 8 (by kernel_rfl) (by kernel_rfl)
theorem reads (os : Os) {H : Type} (enc : TypeId × Value → H) : ∃ places, DataW.whole enc Tryz.prog ((laidWorld os).forCall (fun _ _ => 0) ⟨#[], #[.agg #[.int .i64 0, .int .i64 0, .string ByteArray.empty, .string ByteArray.empty, .string ByteArray.empty, .bool false, .bool false, .slice none 0 0], .agg #[.int .i64 0, .int .i64 0, .string ByteArray.empty, .string ByteArray.empty, .string ByteArray.empty, .bool false, .bool false, .slice none 0 0], .agg #[.int .i64 0, .int .i64 0]], []⟩).memory Tryz.f6.params.toList Rows.denoteSpanSpec.vars false (#[.agg #[.int .i64 0, .int .i64 0, .string ByteArray.empty, .string ByteArray.empty, .string ByteArray.empty, .bool false, .bool false, .slice none 0 0], .agg #[.int .i64 0, .int .i64 0, .string ByteArray.empty, .string ByteArray.empty, .string ByteArray.empty, .bool false, .bool false, .slice none 0 0], .agg #[.int .i64 0, .int .i64 0]] : Array Value).toList 8 = some ([.agg [.lit (.int .i64 0), .agg [.lit (.int .i64 0), .lit (.string []), .lit (.string []), .lit (.string [])], .lit (.bool false), .lit (.bool false), .nil], .agg [.lit (.int .i64 0), .agg [.lit (.int .i64 0), .lit (.string []), .lit (.string []), .lit (.string [])], .lit (.bool false), .lit (.bool false), .nil], .agg [.lit (.int .i64 0), .lit (.int .i64 0)]], [], places) :=
  ⟨[], by kernel_rfl⟩

set_option maxRecDepth 100000 in
theorem contract (H : Type) (enc : TypeId × Value → H) (W : World) (base : Nat) (args : Array Value) (ds gs : List (DataW H)) (before : List MemPlace)
    (hval : ∀ (j : Nat) t v, Tryz.f6.params[j]? = some t → args[j]? = some v → Value.okWide Tryz.prog W .any base t v)
    (hW : DataW.Whole enc Tryz.prog Tryz.f6.params.toList Rows.denoteSpanSpec.vars false W args.toList ds gs before) (hL : laidMetH Tryz.prog Rows.denoteSpanRow.laid W) :
    Calls Tryz.prog 6 args W fun e W' => ∃ v, e = .returned v ∧ Rows.denoteSpanSpec.post enc Tryz.prog Tryz.f6 false true false false W args v W' := by
  have hW' := hW
  have hltA : ∀ x ∈ before, x.block < W.heap.size := fun x hx => by simpa using hW'.lt x hx
  obtain ⟨p, q, hA0, hV, rfl, hfz, hnd⟩ := hW
  have hA : DataW.TrodAll enc Tryz.prog W 0 (fun _ => true) true Tryz.f6.params.toList args.toList ds p := hA0
  rw [Tryz.params6] at hA hval
  obtain ⟨v0, vs0, d0, ds0, p0, q0, hargs, rfl, rfl, h0, r0⟩ := trodAll_cons hA
  obtain ⟨v1, vs1, d1, ds1, p1, q1, rfl, rfl, rfl, h1, r1⟩ := trodAll_cons r0
  obtain ⟨v2, vs2, d2, ds2, p2, q2, rfl, rfl, rfl, h2, r2⟩ := trodAll_cons r1
  obtain ⟨rfl, rfl, rfl⟩ := trodAll_nil r2
  obtain rfl : args = #[v0, v1, v2] := by cases args; simp_all
  obtain ⟨rfl, rfl⟩ := trodVars_none hV
  have hk0 := h0
  obtain ⟨n0, u0, rfl, hn0, gn0, wg0⟩ := open_node (hval 0 26 v0 rfl rfl) h0
  have hk1 := h1
  obtain ⟨n1, u1, rfl, hn1, gn1, wg1⟩ := open_node (hval 1 26 v1 rfl rfl) h1
  have hk2 := h2
  obtain ⟨c2, c2', y2, y2', m2, rfl, rfl, rfl, z2, z2'⟩ := open_agg2 Tryz.underlying42 (by kernel_rfl) cells42 (hval 2 42 v2 rfl rfl) h2
  obtain ⟨a2, e2, rfl, w2⟩ := DataW.trod_int Tryz.underlying3 z2
  obtain ⟨a2', e2', rfl, w2'⟩ := DataW.trod_int Tryz.underlying3 z2'
  simp at e2 e2'
  subst e2 e2'
  clear hA0
  simp only [List.append_nil] at hW'
  refine (denoteSpan_walk n0 u0 n1 u1 a2 a2' W hn0 hn1 (wf_bd w2).1 (wf_bd w2).2 (wf_bd w2').1 (wf_bd w2').2 (tabs_of hL)).mono fun e W' ⟨he, hg⟩ => ?_
  subst he
  have bel : Below W.heap.size W W' := hg
  exact ⟨_, rfl, _, _, _, [], _, [], hW', trodAll_mk1 (shut_bool Tryz.underlying4 _), (trodAll_cons_mk (Below.trod laidOut (by kernel_rfl) (of_decide_eq_true (by kernel_rfl)) hk0 bel (fun x hx => hltA x (by simp [hx]))) (trodAll_cons_mk (Below.trod laidOut (by kernel_rfl) (of_decide_eq_true (by kernel_rfl)) hk1 bel (fun x hx => hltA x (by simp [hx]))) (trodAll_cons_mk (shut_agg2 (y0 := (.lit (.int .i64 a2), [])) (y1 := (.lit (.int .i64 a2'), [])) Tryz.underlying42 (by kernel_rfl) cells42 ⟨1, by simp [DataW.trod, Tryz.underlying3, w2]⟩ ⟨1, by simp [DataW.trod, Tryz.underlying3, w2']⟩) trodAll_mk0))), rfl, bel.frame _, fun h => by cases h⟩

set_option maxRecDepth 100000 in
theorem lifted (os : Os) (started : os.Started) (H : Type) (enc : TypeId × Value → H) (F : Stop.Interp) :
    ReturnsInHanded {} Tryz.checked os 6 .any ((OpenSpec.ofChange Rows.denoteSpanSpec).preRow enc Tryz.prog Tryz.f6 Rows.denoteSpanRow.domain false Rows.denoteSpanRow.laid) (((OpenSpec.ofChange Rows.denoteSpanSpec).at F).post enc Tryz.prog Tryz.f6 false true false false) := by
  obtain ⟨places, hx⟩ := reads os enc
  refine returnsInHanded_of_row (C := Tryz.checked) (s := OpenSpec.ofChange Rows.denoteSpanSpec) own started (by kernel_rfl) Tryz.func6
    (witness_row_at (enc := enc) (C := Tryz.checked) false (laidWorld os) #[.agg #[.int .i64 0, .int .i64 0, .string ByteArray.empty, .string ByteArray.empty, .string ByteArray.empty, .bool false, .bool false, .slice none 0 0], .agg #[.int .i64 0, .int .i64 0, .string ByteArray.empty, .string ByteArray.empty, .string ByteArray.empty, .bool false, .bool false, .slice none 0 0], .agg #[.int .i64 0, .int .i64 0]] rfl (by kernel_rfl) (by kernel_rfl) (by kernel_rfl)
      (OpenSpec.preRow_of_cond 8 hx (by kernel_rfl) (fun k hk => by cases hk) (by kernel_rfl) (laid_met os))) ?_
  intro W base args ds gs before hval hW _ hcond _ hL _ _
  exact contract H enc W base args ds gs before hval hW hL

theorem said : Rows.DenoteSpanSaid :=
  OpenClaim.holds_of_cond 6 Tryz.f6 rfl rfl rfl rfl rfl rfl rfl ⟨rfl, rfl, rfl, rfl, rfl⟩ rfl rfl rfl rfl rfl (by kernel_rfl) Tryz.func6 (by kernel_rfl)
    (of_decide_eq_true (by kernel_rfl)) (by unfold Func.isWrapper; first | (rw [if_pos (by decide +kernel)]; kernel_rfl) | (rw [if_neg (by decide +kernel)]; exact ⟨rfl, rfl⟩))
    (fun os started H enc _ F => by rw [OpenClaim.pre_eq_preRow]; exact lifted os started H enc F)

theorem plain (f : FuncId) (fn : Func) (hf : Tryz.pinned.checked.prog.funcNamed "lustrum/lustrumlaw15.DenoteSpan" = some f) (hfn : Tryz.pinned.checked.prog.funcs[f]? = some fn) :
    true = Tryz.pinned.checked.prog.looks [] ∧ ∀ (j : Nat) t, fn.params[j]? = some t → Tryz.pinned.checked.prog.wantsStandIn t = false := by
  obtain rfl : f = 6 := Option.some.inj ((show Tryz.prog.funcNamed "lustrum/lustrumlaw15.DenoteSpan" = some 6 by kernel_rfl).symm.trans hf) |>.symm
  obtain rfl : fn = Tryz.f6 := (Option.some.inj (Tryz.func6.symm.trans hfn)).symm
  refine ⟨by kernel_rfl, fun j t ht => ?_⟩
  rw [Tryz.params6] at ht
  have hm := Array.mem_of_getElem? ht
  have ho : t = 26 ∨ t = 42 := by first | simpa using hm | (simp at hm; rcases hm with h | h <;> simp [h])
  rcases ho with rfl | rfl
  · exact (show Tryz.prog.wantsStandIn 26 = false by kernel_rfl)
  · exact (show Tryz.prog.wantsStandIn 42 = false by kernel_rfl)

/-- THE CARD. -/
theorem proved : Rows.DenoteSpanCardSaid :=
  Claim7.holds_tied_plain_at .later [] _ _ _ _ said (fun _ h => by cases h) (by kernel_rfl) (fun _ h => by cases h) denoteSpan_row_tie rfl ⟨rfl, rfl⟩ (by kernel_rfl) rfl plain (by kernel_rfl)
#print axioms proved
end Go.Proofs.YtmklpimaemogcaaGreatDoor.lawDenoteSpan
