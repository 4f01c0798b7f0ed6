/-
  The sort of runs: pdqsort whole, and slices.SortFunc.
-/
import Derived.Test.YtndmohamjffpcaaDoorSortB
import Derived.Test.YtndmohamjffpcaaDoorSortC
import Derived.Test.YtndmohamjffpcaaDoorSortF
import Derived.Test.YtndmohamjffpcaaDoorSortG
import Derived.Test.YtndmohamjffpcaaDoorSortP
import Derived.Test.YtndmohamjffpcaaDoorSortQ
import Derived.Test.YtndmohamjffpcaaDoorSortR
import Derived.Test.YtndmohamjffpcaaDoorSortY
import Derived.Sort.Walk13a
import Derived.Sort.AssemblyPlain
namespace Go.Proofs.YtndmohamjffpcaaDoor
open Go.RowKit Go.Sort Go.Shelf
set_option linter.unusedVariables false
set_option linter.unusedSimpArgs false
theorem swoR : SWO ltR := by
  refine ⟨fun x => by simp [ltR], fun x y z h g => ?_, fun x y z h g => ?_⟩ <;> simp [ltR] at * <;> omega
theorem eighth2 {x y p q : Nat} (h1 : q ≤ p) (h2 : y ≤ x) : decide (((x : Int) - (y : Int)) / 8 ≤ (p : Int) - (q : Int)) = decide (p - q ≥ (x - y) / 8) := by
  have : (((x : Int) - (y : Int)) / 8 ≤ (p : Int) - (q : Int)) ↔ (p - q ≥ (x - y) / 8) := by omega
  simp only [this]
section
variable {w0 : World} {b off n : Nat} (R0 : RowR w0 b off n) (cap : Nat)
include R0
theorem heap_ab (d : Array R) (a e : Nat) (w : World) (hW : SW w0 b off d w) (hs : d.size = n) (he : e ≤ n) (h12 : ¬ e - a ≤ 12) :
    Calls Tryd.prog 83 #[.slice (some ⟨b, off, none⟩) n cap, .int .i64 a, .int .i64 e, fvR] w fun ex w' => ex = .returned (.tuple #[]) ∧ SW w0 b off (Sort.heapSort ltR d a e) w' := by
  have h := heap_any R0 cap d a (e - a) w hW hs (by omega) (by omega)
  rw [show a + (e - a) = e by omega, show (a : Int) + ((e - a : Nat) : Int) = (e : Int) by omega] at h
  exact h
theorem brk_ab (d : Array R) (a e : Nat) (w : World) (hW : SW w0 b off d w) (hs : d.size = n) (he : e ≤ n) (h12 : ¬ e - a ≤ 12) (hsm : n ≤ 4294967295) :
    Calls Tryd.prog 84 #[.slice (some ⟨b, off, none⟩) n cap, .int .i64 a, .int .i64 e, fvR] w fun ex w' => ex = .returned (.tuple #[]) ∧ SW w0 b off (Sort.breakPatterns d a e) w' := by
  have h := brk_any R0 cap d a (e - a) w hW hs (by omega) (by omega) hsm
  rw [show a + (e - a) = e by omega, show (a : Int) + ((e - a : Nat) : Int) = (e : Int) by omega] at h
  exact h
theorem pivot_ab (d : Array R) (a e : Nat) (w : World) (hW : SW w0 b off d w) (hs : d.size = n) (he : e ≤ n) (h12 : ¬ e - a ≤ 12) :
    Calls Tryd.prog 85 #[.slice (some ⟨b, off, none⟩) n cap, .int .i64 a, .int .i64 e, fvR] w fun ex w' =>
      ex = .returned (.tuple #[.int .i64 (Sort.choosePivot ltR d a e).1, .int .i64 (hintI (Sort.choosePivot ltR d a e).2)]) ∧ SW w0 b off d w' := by
  have h := pivot_any R0 cap d a (e - a) w hW hs (by omega) (by omega)
  rw [show a + (e - a) = e by omega, show (a : Int) + ((e - a : Nat) : Int) = (e : Int) by omega] at h
  exact h
theorem pins_ab (d : Array R) (a e : Nat) (w : World) (hW : SW w0 b off d w) (hs : d.size = n) (he : e ≤ n) (h12 : ¬ e - a ≤ 12) :
    Calls Tryd.prog 87 #[.slice (some ⟨b, off, none⟩) n cap, .int .i64 a, .int .i64 e, fvR] w fun ex w' => ex = .returned (.bool (Sort.partialInsertionSort ltR d a e).2) ∧ SW w0 b off (Sort.partialInsertionSort ltR d a e).1 w' := by
  have h := pins_any R0 cap d a (e - 1) w hW hs (by omega) (by omega)
  rw [show e - 1 + 1 = e by omega, show ((e - 1 : Nat) : Int) + 1 = (e : Int) by omega] at h
  exact h
theorem part_ab (d : Array R) (a e pv : Nat) (w : World) (hW : SW w0 b off d w) (hs : d.size = n) (he : e ≤ n) (h12 : ¬ e - a ≤ 12) (hp1 : a ≤ pv) (hp2 : pv < e) (mid : Nat) (ap : Bool) (d4 : Array R) (hx : Sort.partition ltR d a e pv = (mid, ap, d4)) :
    Calls Tryd.prog 89 #[.slice (some ⟨b, off, none⟩) n cap, .int .i64 a, .int .i64 e, .int .i64 pv, fvR] w fun ex w' => ex = .returned (.tuple #[.int .i64 mid, .bool ap]) ∧ SW w0 b off d4 w' := by
  have h := part_any R0 cap d a (e - 1) pv w hW hs (by omega) (by omega) hp1 (by omega)
  rw [show e - 1 + 1 = e by omega, show ((e - 1 : Nat) : Int) + 1 = (e : Int) by omega, hx] at h
  exact h
theorem partEq_ab (d : Array R) (a e pv : Nat) (w : World) (hW : SW w0 b off d w) (hs : d.size = n) (he : e ≤ n) (h12 : ¬ e - a ≤ 12) (hp1 : a ≤ pv) (hp2 : pv < e) (mid : Nat) (d4 : Array R) (hx : Sort.partitionEqual ltR d a e pv = (mid, d4)) :
    Calls Tryd.prog 88 #[.slice (some ⟨b, off, none⟩) n cap, .int .i64 a, .int .i64 e, .int .i64 pv, fvR] w fun ex w' => ex = .returned (.int .i64 mid) ∧ SW w0 b off d4 w' := by
  have h := partEq_any R0 cap d a (e - 1) pv w hW hs (by omega) (by omega) hp1 (by omega)
  rw [show e - 1 + 1 = e by omega, show ((e - 1 : Nat) : Int) + 1 = (e : Int) by omega, hx] at h
  exact h
set_option maxHeartbeats 8000000 in
set_option maxRecDepth 1000000 in
theorem pdq_any (hsm : n ≤ 4294967295) :
    ∀ (N a e limit : Nat) (d : Array R) (w : World), e - a < N → d.size = n → SW w0 b off d w → a ≤ e → e ≤ n → limit ≤ 4611686018427387903 → Sort.Below ltR a e d →
    Calls Tryd.prog 79 #[.slice (some ⟨b, off, none⟩) n cap, .int .i64 a, .int .i64 e, .int .i64 limit, fvR] w fun ex w' =>
      ex = .returned (.tuple #[]) ∧ SW w0 b off (Sort.pdq ltR d a e limit true true) w' := by
  have mx := mixed
  have hn := R0.hn
  have RW := Lib.hid R0
  clear R0
  intro N
  induction N with
  | zero => intro _ _ _ _ _ h; exact absurd h (Nat.not_lt_zero _)
  | succ N ih =>
    intro a e limit d w hN hs hW hae hen hlimit hBel
    have IH := Lib.hid ih
    have HW := Lib.hid hW
    have HB := Lib.hid hBel
    clear ih hW hBel
    unfold fvR
    go_enter Tryd.func79, Tryd.ntmps79
    go_wp2
    go_loopw [1, 2, 3, 10, 11] (fun s1 s2 s3 s10 s11 wr => ∃ (a' e' lim : Nat) (wb wp : Bool) (dk : Array R), s1 = .int .i64 a' ∧ s2 = .int .i64 e' ∧ s3 = .int .i64 lim ∧ s10 = .bool wb ∧ s11 = .bool wp ∧
      a' ≤ e' ∧ e' ≤ n ∧ e' - a' ≤ e - a ∧ lim ≤ 4611686018427387903 ∧ dk.size = n ∧ Hid (Sort.Below ltR a' e' dk) ∧ Hid (SW w0 b off dk wr) ∧ Hid (Sort.pdq ltR dk a' e' lim wb wp = Sort.pdq ltR d a e limit true true)) (fun s1 s2 _ _ _ _ => (intOf s2 - intOf s1).toNat)
    case atStart => exact ⟨a, e, limit, true, true, d, rfl, rfl, rfl, rfl, rfl, hae, hen, Nat.le_refl _, hlimit, hs, HB, HW, Lib.hid rfl⟩
    case round =>
      clear HB HW
      obtain ⟨a', e', lim, wb, wp, dk, rfl, rfl, rfl, rfl, rfl, hae', hen', hke, hlim, hsk, HB, HS, HE⟩ := hrel
      have wl : IntKind.i64.wrap ((e' : Int) - (a' : Int)) = (e' : Int) - (a' : Int) := by rw [IntKind.wrap_i64]; omega
      by_cases h12 : e' - a' ≤ 12
      · have g12 : (e' : Int) - (a' : Int) ≤ 12 := by omega
        have g12' : decide ((e' : Int) - (a' : Int) ≤ 12) = true := decide_eq_true g12
        have C := Lib.hid (ins_any RW.out cap dk a' e' wr HS.out hsk hae' hen')
        unfold fvR at C
        have FIN := Lib.hid (show Sort.insertionSort ltR dk a' e' = Sort.pdq ltR d a e limit true true by rw [← HE.out, pdq_small h12])
        go_wp2_with (go_at_call 82; refine (C.out).mono ?_; rintro e w1 ⟨rfl, hw1⟩)
        (try simp only [Exit.inBlock, Exit.then]); refine bodyPost_ret (results_none rfl _ _ _) rfl ?_
        exact ⟨rfl, by rw [← FIN.out]; exact hw1⟩
      · have g12 : ¬ (e' : Int) - (a' : Int) ≤ 12 := by omega
        have g12' : decide ((e' : Int) - (a' : Int) ≤ 12) = false := decide_eq_false g12
        have H12 := Lib.hid h12
        by_cases hl0 : lim = 0
        · have C := Lib.hid (heap_ab RW.out cap dk a' e' wr HS.out hsk hen' h12)
          unfold fvR at C
          have FIN := Lib.hid (show Sort.heapSort ltR dk a' e' = Sort.pdq ltR d a e limit true true by rw [← HE.out, pdq_heap h12 hl0])
          have l0 : ((lim : Int) == 0) = true := by simp; omega
          have l0' : decide ((lim : Int) = 0) = true := decide_eq_true (by omega)
          clear hl0
          go_wp2_with (go_at_call 83; refine (C.out).mono ?_; rintro e w1 ⟨rfl, hw1⟩)
          (try simp only [Exit.inBlock, Exit.then]); refine bodyPost_ret (results_none rfl _ _ _) rfl ?_
          exact ⟨rfl, by rw [← FIN.out]; exact hw1⟩
        · have l0 : ((lim : Int) == 0) = false := by simp; omega
          have l0' : decide ((lim : Int) = 0) = false := decide_eq_false (by omega)
          have l0'' : ¬ (lim : Int) = 0 := by omega
          have hl1 : 1 ≤ lim := by omega
          have HL0 := Lib.hid hl0
          obtain ⟨Q, hQ⟩ : ∃ Q, Q = rd ltR dk a' e' lim wb wp := ⟨_, rfl⟩
          have F := rd_facts (lt := ltR) (limit := lim) (wb := wb) (wp := wp) swoR partialInsertionSort_holds reverseRange_holds (show a' < e' by omega) (show e' ≤ dk.size by omega) HB.out
          rw [← hQ] at F
          obtain ⟨s1, B1, ⟨c1, c2⟩, s2, B2, ⟨v1, v2⟩, s3, B3⟩ := F
          have QL := rd_lim_le (lt := ltR) (d := dk) (a := a') (b := e') (limit := lim) (wb := wb) (wp := wp)
          rw [← hQ] at QL
          have HQ := Lib.hid hQ
          have HB3 := Lib.hid B3
          clear hQ B1 B2 B3 hl0 h12
          have HS1 := Lib.hid (s1.trans hsk)
          have HS2 := Lib.hid (s2.trans hsk)
          have HS3 := Lib.hid (s3.trans hsk)
          clear s1 s2 s3
          go_upto_if 39 with fail
          go_cut [3] from 21 (fun s3 wc => s3 = .int .i64 Q.lim ∧ Hid (SW w0 b off Q.d1 wc))
          case first =>
            cases wb
            · have C := Lib.hid (brk_ab RW.out cap dk a' e' wr HS.out hsk hen' H12.out hsm)
              unfold fvR at C
              have E := Lib.hid (show Sort.breakPatterns dk a' e' = Q.d1 ∧ lim - 1 = Q.lim by rw [HQ.out]; exact ⟨rfl, rfl⟩)
              have wlm : IntKind.i64.wrap ((lim : Int) - 1) = (lim : Int) - 1 := by rw [IntKind.wrap_i64]; omega
              go_wp2_with (go_at_call 84; refine (C.out).mono ?_; rintro e w1 ⟨rfl, hw1⟩)
              go_meet
              case rel =>
                refine ⟨?_, Lib.hid (by rw [← E.out.1]; exact hw1)⟩
                have := E.out.2
                congr 1
                omega
            · have E := Lib.hid (show dk = Q.d1 ∧ lim = Q.lim by rw [HQ.out]; exact ⟨rfl, rfl⟩)
              go_wp2_with fail
              go_meet
              case rel => exact ⟨by rw [← E.out.2], Lib.hid (by rw [← E.out.1]; exact HS.out)⟩
          case rest =>
            obtain ⟨rfl, HS4⟩ := hcut
            clear HS
            have C := Lib.hid (pivot_ab RW.out cap Q.d1 a' e' wc HS4.out HS1.out hen' H12.out)
            rw [show Sort.choosePivot ltR Q.d1 a' e' = Q.c by rw [HQ.out]; rfl] at C
            unfold fvR at C
            go_upto_if 56 with (go_at_call 85; refine (C.out).mono ?_; rintro e w2 ⟨rfl, hAt2⟩)
            have HS5 := Lib.hid hAt2
            clear hAt2 HS4 C
            go_cut [13, 14] from 21 (fun s13 s14 wc => s13 = .int .i64 Q.pivot ∧ s14 = .int .i64 (hintI Q.hint) ∧ Hid (SW w0 b off Q.d2 wc))
            case first =>
              by_cases hh : Q.c.2 = .decreasing
              · have E : Q.d2 = Sort.reverseRange Q.d1 a' e' ∧ Q.pivot = (e' - 1) - (Q.c.1 - a') ∧ Q.hint = .increasing := by
                  have := rd_dec (lt := ltR) (d := dk) (a := a') (b := e') (limit := lim) (wb := wb) (wp := wp) (by rw [← HQ.out]; exact hh)
                  rw [← HQ.out] at this; exact this
                obtain ⟨e2, epv, eht⟩ := E
                have hcode : hintI Q.c.2 = 2 := by rw [hh]; rfl
                have w1 : IntKind.i64.wrap ((e' : Int) - 1) = (e' : Int) - 1 := by rw [IntKind.wrap_i64]; omega
                have w2' : IntKind.i64.wrap ((Q.c.1 : Int) - (a' : Int)) = (Q.c.1 : Int) - (a' : Int) := by rw [IntKind.wrap_i64]; omega
                have w3 : IntKind.i64.wrap ((e' : Int) - 1 - ((Q.c.1 : Int) - (a' : Int))) = (Q.pivot : Int) := by rw [IntKind.wrap_i64]; omega
                have C := Lib.hid (rev_any RW.out cap fvR Q.d1 a' e' w2 HS5.out HS1.out (by omega) hen')
                rw [← e2] at C
                unfold fvR at C
                have EH := Lib.hid eht
                clear e2 epv eht hh
                go_wp2_with (go_at_call 86; refine (C.out).mono ?_; rintro e w3 ⟨rfl, hw3⟩)
                go_meet
                case rel => exact ⟨rfl, by rw [EH.out]; rfl, Lib.hid hw3⟩
              · have E : Q.d2 = Q.d1 ∧ Q.pivot = Q.c.1 ∧ Q.hint = Q.c.2 := by
                  have := rd_not (lt := ltR) (d := dk) (a := a') (b := e') (limit := lim) (wb := wb) (wp := wp) (by rw [← HQ.out]; exact hh)
                  rw [← HQ.out] at this; exact this
                have hcode : ¬ hintI Q.c.2 = 2 := fun h => hh (by revert h; cases Q.c.2 <;> simp [hintI])
                have hcode' : (hintI Q.c.2 == 2) = false := by simpa using hcode
                have HE3 := Lib.hid E
                clear E hh
                go_wp2_with fail
                go_meet
                case rel => exact ⟨by rw [HE3.out.2.1], by rw [HE3.out.2.2], Lib.hid (by rw [HE3.out.1]; exact HS5.out)⟩
            case rest =>
              obtain ⟨rfl, rfl, HS6⟩ := hcut
              clear HS5
              go_upto_region 15 with fail
              go_cut [14, 75] from 21 (fun s14 s75 wx => s14 = .int .i64 (hintI Q.hint) ∧ s75 = .bool (wb && wp && decide (Q.hint = .increasing)) ∧ Hid (SW w0 b off Q.d2 wx))
              case first =>
                cases wb <;> cases wp <;> cases hh3 : Q.hint <;>
                  (have hcode3 := congrArg hintI hh3
                   simp only [hintI] at hcode3
                   go_wp2_with fail
                   go_meet
                   exact ⟨by simp [hh3, hintI], by simp [hh3, hintI], HS6⟩)
              case rest =>
                obtain ⟨rfl, rfl, HS7⟩ := hcut
                clear HS6
                go_upto_if 75 with fail
                go_cut [] from 21 (fun wx => Hid (Q.pi.2 = false) ∧ Hid (SW w0 b off Q.pi.1 wx))
                case first =>
                  cases h68 : (wb && wp && decide (Q.hint = .increasing))
                  · have epi : Q.pi = (Q.d2, false) := by
                      have := rd_pi_no (lt := ltR) (d := dk) (a := a') (b := e') (limit := lim) (wb := wb) (wp := wp) (by rw [← HQ.out]; exact h68)
                      rw [← HQ.out] at this; exact this
                    have EP := Lib.hid epi
                    clear epi
                    go_wp2_with fail
                    go_meet
                    case rel => exact ⟨Lib.hid (by rw [EP.out]), Lib.hid (by rw [EP.out]; exact HS7.out)⟩
                  · have epi : Q.pi = Sort.partialInsertionSort ltR Q.d2 a' e' := by
                      have := rd_pi_yes (lt := ltR) (d := dk) (a := a') (b := e') (limit := lim) (wb := wb) (wp := wp) (by rw [← HQ.out]; exact h68)
                      rw [← HQ.out] at this; exact this
                    have C := Lib.hid (pins_ab RW.out cap Q.d2 a' e' wc HS7.out HS2.out hen' H12.out)
                    rw [← epi] at C
                    unfold fvR at C
                    clear epi
                    rcases hp2 : Q.pi.2 with _ | _
                    · rw [hp2] at C
                      have HP2 := Lib.hid hp2
                      clear hp2
                      go_wp2_with (go_at_call 87; refine (C.out).mono ?_; rintro e w4 ⟨rfl, hw4⟩)
                      go_meet
                      case rel => exact ⟨HP2, Lib.hid hw4⟩
                    · rw [hp2] at C
                      have FIN := Lib.hid (show Q.pi.1 = Sort.pdq ltR d a e limit true true by rw [← HE.out, pdq_done H12.out HL0.out (by rw [← HQ.out]; exact hp2), ← HQ.out])
                      clear hp2
                      go_wp2_with (go_at_call 87; refine (C.out).mono ?_; rintro e w4 ⟨rfl, hw4⟩)
                      (try simp only [Exit.inBlock, Exit.then]); refine bodyPost_ret (results_none rfl _ _ _) rfl ?_
                      exact ⟨rfl, by rw [← FIN.out]; exact hw4⟩
                case rest =>
                  obtain ⟨HP2, HS8⟩ := hcut
                  clear HS7
                  go_upto_region 17 with fail
                  go_cut [97] from 21 (fun s97 wx => ∃ gb : Bool, s97 = .bool gb ∧ Hid (gb = (decide (a' > 0) && !ltR Q.pi.1[a' - 1]! Q.pi.1[Q.pivot]!)) ∧ Hid (SW w0 b off Q.pi.1 wx))
                  case first =>
                    by_cases ha0 : a' = 0
                    · have z : decide ((0 : Int) < (a' : Int)) = false := decide_eq_false (by omega)
                      have z' : decide ((a' : Int) > 0) = false := z
                      have z2 : ¬ (0 < a') := by omega
                      have z3 : decide (0 < a') = false := decide_eq_false z2
                      have HA := Lib.hid ha0
                      clear ha0
                      go_wp2_with fail
                      go_region
                      all_goals go_wp2
                      go_meet
                      case rel => exact ⟨false, rfl, Lib.hid (by simp [HA.out]), Lib.hid HS8.out.drew⟩
                    · obtain ⟨q, rfl⟩ : ∃ q, a' = q + 1 := ⟨a' - 1, by omega⟩
                      have z : decide ((0 : Int) < (q : Int) + 1) = true := decide_eq_true (by omega)
                      have z1 : (0 : Int) < (q : Int) + 1 := by omega
                      have wq : IntKind.i64.wrap (q : Int) = (q : Int) := by rw [IntKind.wrap_i64]; omega
                      have zq : (q : Int) < (n : Int) := by omega
                      have zp1 : (Q.pivot : Int) < (n : Int) := by omega
                      obtain ⟨x1, x2, y1, y2, cf, hcf, cj1, cj2, cp1, cp2, CX⟩ := RW.out.two HS8.out HS3.out q Q.pivot (by omega) (by omega)
                      have HCF := Lib.hid hcf
                      clear hcf ha0
                      rcases hl : decide (cf < 0) with _ | _
                      · have hcn : ¬ cf < 0 := of_decide_eq_false hl
                        go_wp2_with fail
                        go_quiet_grown (first | (go_at_call 77; exact CX.out _ _))
                        go_wp2
                        go_meet
                        case rel => exact ⟨true, rfl, Lib.hid (by rw [show q + 1 - 1 = q from rfl, ← HCF.out, hl, decide_eq_true (show q + 1 > 0 by omega)]; rfl), Lib.hid (HS8.out.grown _ _)⟩
                      · have hcn : cf < 0 := of_decide_eq_true hl
                        go_wp2_with fail
                        go_quiet_grown (first | (go_at_call 77; exact CX.out _ _))
                        go_wp2
                        go_meet
                        case rel => exact ⟨false, rfl, Lib.hid (by rw [show q + 1 - 1 = q from rfl, ← HCF.out, hl, decide_eq_true (show q + 1 > 0 by omega)]; rfl), Lib.hid (HS8.out.grown _ _)⟩
                  case rest =>
                    obtain ⟨gb, rfl, HG, HS9⟩ := hcut
                    clear HS8
                    cases gb with
                    | true =>
                      obtain ⟨mid, d4, hx⟩ : ∃ mid d4, Sort.partitionEqual ltR Q.pi.1 a' e' Q.pivot = (mid, d4) := ⟨_, _, rfl⟩
                      have hg := HG.out
                      have hg2 : 0 < a' ∧ ltR Q.pi.1[a' - 1]! Q.pi.1[Q.pivot]! = false := by
                        have := hg.symm
                        simp only [Bool.and_eq_true, decide_eq_true_eq, Bool.not_eq_true'] at this
                        exact this
                      obtain ⟨r1, r2, r3, r4, _⟩ := round_eq swoR (partitionEqual_holds ltR) hg2.1 v1 v2 (show e' ≤ Q.pi.1.size by have := HS3.out; omega) HB3.out hg2.2 hx
                      have C := Lib.hid (partEq_ab RW.out cap Q.pi.1 a' e' Q.pivot wc HS9.out HS3.out hen' H12.out v1 v2 mid d4 hx)
                      unfold fvR at C
                      have FIN := Lib.hid (show Sort.pdq ltR d4 mid e' Q.lim wb wp = Sort.pdq ltR d a e limit true true by
                        have h := pdq_eq (lt := ltR) (d := dk) (a := a') (b := e') (limit := lim) (wb := wb) (wp := wp) H12.out HL0.out (by rw [← HQ.out]; exact HP2.out) (by rw [← HQ.out]; exact hg.symm) (by rw [← HQ.out, hx]; exact ⟨r1, r2⟩)
                        rw [← HQ.out, hx] at h
                        rw [← HE.out, h])
                      have R4 := Lib.hid r4
                      have R3 := Lib.hid (r3.trans HS3.out)
                      clear hx hg hg2 r3 r4
                      go_wp2_with (go_at_call 88; refine (C.out).mono ?_; rintro e w7 ⟨rfl, hw7⟩)
                      refine ⟨⟨mid, e', Q.lim, wb, wp, d4, rfl, rfl, rfl, rfl, rfl, r2, hen', by omega, by omega, R3.out, R4, Lib.hid hw7, FIN⟩, ?_⟩
                      simp only [intOf]; omega
                    | false =>
                      obtain ⟨mid, ap, d4, hx⟩ : ∃ mid ap d4, Sort.partition ltR Q.pi.1 a' e' Q.pivot = (mid, ap, d4) := ⟨_, _, _, rfl⟩
                      obtain ⟨r1, r2, r3, r4, r5, r6, r7⟩ := round_part swoR (partition_holds ltR) v1 v2 (show e' ≤ Q.pi.1.size by have := HS3.out; omega) HB3.out hx
                      have C := Lib.hid (part_ab RW.out cap Q.pi.1 a' e' Q.pivot wc HS9.out HS3.out hen' H12.out v1 v2 mid ap d4 hx)
                      unfold fvR at C
                      have PL : Hid (mid - a' < e' - mid → Sort.pdq ltR (Sort.pdq ltR d4 a' mid Q.lim true true) (mid + 1) e' Q.lim (decide (mid - a' ≥ (e' - a') / 8)) ap = Sort.pdq ltR d a e limit true true) := by
                        intro h4
                        rw [← HE.out]
                        have h := pdq_left (lt := ltR) (d := dk) (a := a') (b := e') (limit := lim) (wb := wb) (wp := wp) H12.out HL0.out
                        rw [← HQ.out, hx] at h
                        exact (h HP2.out HG.out.symm ⟨r1, r2⟩ h4).symm
                      have PR : Hid (¬ mid - a' < e' - mid → Sort.pdq ltR (Sort.pdq ltR d4 (mid + 1) e' Q.lim true true) a' mid Q.lim (decide (e' - mid ≥ (e' - a') / 8)) ap = Sort.pdq ltR d a e limit true true) := by
                        intro h4
                        rw [← HE.out]
                        have h := pdq_right (lt := ltR) (d := dk) (a := a') (b := e') (limit := lim) (wb := wb) (wp := wp) H12.out HL0.out
                        rw [← HQ.out, hx] at h
                        exact (h HP2.out HG.out.symm ⟨r1, r2⟩ h4).symm
                      have R3 := Lib.hid (r3.trans HS3.out)
                      have R4 := Lib.hid r4
                      have R5 := Lib.hid r5
                      have R6 := Lib.hid r6
                      have R7 := Lib.hid r7
                      clear hx r3 r4 r5 r6 r7
                      have wll : IntKind.i64.wrap ((mid : Int) - (a' : Int)) = (mid : Int) - (a' : Int) := by rw [IntKind.wrap_i64]; omega
                      have wrl : IntKind.i64.wrap ((e' : Int) - (mid : Int)) = (e' : Int) - (mid : Int) := by rw [IntKind.wrap_i64]; omega
                      have wm1 : IntKind.i64.wrap ((mid : Int) + 1) = (mid : Int) + 1 := by rw [IntKind.wrap_i64]; omega
                      go_upto_if 125 with (go_at_call 89; refine (C.out).mono ?_; rintro e w7 ⟨rfl, hAt7⟩)
                      have HS10 := Lib.hid hAt7
                      clear hAt7 C
                      by_cases h4 : mid - a' < e' - mid
                      · have h4z : (mid : Int) - (a' : Int) < (e' : Int) - (mid : Int) := by omega
                        have h4d : decide ((mid : Int) - (a' : Int) < (e' : Int) - (mid : Int)) = true := decide_eq_true h4z
                        have C := Lib.hid (IH.out a' mid Q.lim d4 w7 (by omega) R3.out HS10.out r1 (by omega) (by omega) R4.out)
                        unfold fvR at C
                        obtain ⟨pL, sL⟩ := pdq_sorts ltR swoR d4 a' mid Q.lim true true r1 (by have := R3.out; omega) R4.out
                        have BL := Lib.hid ((R6.out _ pL sL).1)
                        have SL := Lib.hid (pL.1.trans R3.out)
                        have FIN := Lib.hid (PL.out h4)
                        clear pL sL
                        go_wp2_with (go_at_call 79; refine (C.out).mono ?_; rintro e w8 ⟨rfl, hw8⟩)
                        refine ⟨⟨mid + 1, e', Q.lim, decide (mid - a' ≥ (e' - a') / 8), ap, Sort.pdq ltR d4 a' mid Q.lim true true, by first | go_num | simp, rfl, rfl, ?_, rfl, by omega, hen', by omega, by omega, SL.out, BL, Lib.hid hw8, FIN⟩, ?_⟩
                        · exact congrArg Value.bool (eighth2 r1 hae')
                        · simp only [intOf]; omega
                      · have h4z : ¬ (mid : Int) - (a' : Int) < (e' : Int) - (mid : Int) := by omega
                        have h4d : decide ((mid : Int) - (a' : Int) < (e' : Int) - (mid : Int)) = false := decide_eq_false h4z
                        have C := Lib.hid (IH.out (mid + 1) e' Q.lim d4 w7 (by omega) R3.out HS10.out r2 hen' (by omega) R5.out)
                        rw [show ((mid + 1 : Nat) : Int) = (mid : Int) + 1 by omega] at C
                        unfold fvR at C
                        obtain ⟨pL, sL⟩ := pdq_sorts ltR swoR d4 (mid + 1) e' Q.lim true true r2 (by have := R3.out; omega) R5.out
                        have BL := Lib.hid ((R7.out _ pL sL).1)
                        have SL := Lib.hid (pL.1.trans R3.out)
                        have FIN := Lib.hid (PR.out h4)
                        clear pL sL
                        go_wp2_with (go_at_call 79; refine (C.out).mono ?_; rintro e w8 ⟨rfl, hw8⟩)
                        refine ⟨⟨a', mid, Q.lim, decide (e' - mid ≥ (e' - a') / 8), ap, Sort.pdq ltR d4 (mid + 1) e' Q.lim true true, rfl, rfl, rfl, ?_, rfl, by omega, by omega, by omega, by omega, SL.out, BL, Lib.hid hw8, FIN⟩, ?_⟩
                        · exact congrArg Value.bool (eighth2 (by omega) hae')
                        · simp only [intOf]; omega
end
end Go.Proofs.YtndmohamjffpcaaDoor
