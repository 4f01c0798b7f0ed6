/-
  The sort of runs: what is equal to the pivot.
-/
import Derived.Test.YtndmohamjffpcaaDoorSortT
namespace Go.Proofs.YtndmohamjffpcaaDoor
open Go.RowKit Go.Sort Go.Shelf
set_option linter.unusedVariables false
set_option linter.unusedSimpArgs false
theorem partEq_stop (a i j : Nat) (d : Array R) (i2 j2 : Nat) (e1 : scanUp (fun x => !ltR d[a]! x) d j i = i2) (e2 : scanDown (fun x => ltR d[a]! x) d i2 j = j2) (h : i2 > j2) : partEqLoop ltR a i j d = (i2, d) := by
  rw [partEqLoop]; simp only [e1, e2]; rw [if_pos h]
theorem partEq_go (a i j : Nat) (d : Array R) (i2 j2 : Nat) (e1 : scanUp (fun x => !ltR d[a]! x) d j i = i2) (e2 : scanDown (fun x => ltR d[a]! x) d i2 j = j2) (h : ¬ i2 > j2) (h1 : i ≤ i2) (h2 : j2 ≤ j) (h0 : 1 ≤ i) : partEqLoop ltR a i j d = partEqLoop ltR a (i2 + 1) (j2 - 1) (swp d i2 j2) := by
  rw [partEqLoop]; simp only [e1, e2]; rw [if_neg h, dif_pos (by omega)]
set_option maxHeartbeats 4000000 in
set_option maxRecDepth 100000 in
theorem partEq_any {w0 : World} {b off n : Nat} (R0 : RowR w0 b off n) (cap : Nat) (d : Array R) (a c pv : Nat) (w : World) (hW : SW w0 b off d w) (hs : d.size = n) (hac : a < c) (hc : c + 1 ≤ n) (hp1 : a ≤ pv) (hp2 : pv < c + 1) :
    Calls Tryd.prog 88 #[.slice (some ⟨b, off, none⟩) n cap, .int .i64 a, .int .i64 ((c : Int) + 1), .int .i64 pv, fvR] w fun e w' => e = .returned (.int .i64 (Sort.partitionEqual ltR d a (c + 1) pv).1) ∧ SW w0 b off (Sort.partitionEqual ltR d a (c + 1) pv).2 w' := by
  have mx := mixed
  have hn := R0.hn
  have RW := Lib.hid R0
  clear R0
  obtain ⟨x1, x2, y1, y2, ⟨fa, fb, fc, fd⟩, ⟨ga, gb, gc, gd⟩, ⟨ka, kb⟩, HS⟩ := RW.out.swap2 hW hs a pv (by omega) (by omega)
  have za : (a : Int) < (n : Int) := by omega
  have zp : (pv : Int) < (n : Int) := by omega
  have wc0 : IntKind.i64.wrap ((c : Int) + 1 - 1) = (c : Int) := by rw [IntKind.wrap_i64]; omega
  have wc : IntKind.i64.wrap (c : Int) = (c : Int) := by rw [IntKind.wrap_i64]; omega
  have wa : IntKind.i64.wrap ((a : Int) + 1) = (a : Int) + 1 := by rw [IntKind.wrap_i64]; omega
  obtain ⟨dk, hdk⟩ : ∃ dk, dk = swp d a pv := ⟨_, rfl⟩
  have hsk : dk.size = n := by rw [hdk, size_swp]; exact hs
  rw [← hdk] at HS
  have EP : Sort.partitionEqual ltR d a (c + 1) pv = partEqLoop ltR a (a + 1) c dk := by rw [hdk]; rfl
  rw [EP]
  have HDK := Lib.hid hdk
  clear EP hdk hW
  unfold fvR
  go_enter Tryd.func88, Tryd.ntmps88
  go_wp2_with fail
  go_region
  have HS1 := HS
  generalize ((((w.setCell ⟨b, off + a * 2, none⟩ (.int .i64 y1)).setCell ⟨b, off + a * 2 + 1, none⟩ (.int .i64 y2)).setCell ⟨b, off + pv * 2, none⟩ (.int .i64 x1)).setCell ⟨b, off + pv * 2 + 1, none⟩ (.int .i64 x2)).drew = W1 at HS1 ⊢
  clear fa fb fc fd ga gb gc gd ka kb HS
  go_wp2_with fail
  go_loopw [11, 12] (fun vi vj wr => ∃ (i3 j3 : Nat) (dj : Array R), vi = .int .i64 i3 ∧ vj = .int .i64 j3 ∧ a + 1 ≤ i3 ∧ i3 ≤ j3 + 1 ∧ j3 ≤ c ∧ a ≤ j3 ∧ dj.size = n ∧ Hid (SW w0 b off dj wr) ∧ Hid (partEqLoop ltR a i3 j3 dj = partEqLoop ltR a (a + 1) c dk)) (fun vi vj _ => (intOf vj).toNat + 1 - (intOf vi).toNat)
  case atStart => exact ⟨a + 1, c, dk, by go_num, by go_num, by omega, by omega, by omega, by omega, hsk, HS1, Lib.hid rfl⟩
  case round =>
    obtain ⟨i3, j3, dj, rfl, rfl, k1, k2, k3, k4, hsj, HS3, HM⟩ := hrel
    go_wp2_with fail
    go_loopw [11] (fun v wr => ∃ p3 : Nat, v = .int .i64 p3 ∧ i3 ≤ p3 ∧ p3 ≤ j3 + 1 ∧ Hid (SW w0 b off dj wr) ∧ Hid (scanUp (fun x => !ltR dj[a]! x) dj j3 p3 = scanUp (fun x => !ltR dj[a]! x) dj j3 i3)) (fun v _ => j3 + 1 - (intOf v).toNat)
    case atStart => exact ⟨i3, rfl, by omega, by omega, HS3, Lib.hid rfl⟩
    case round =>
      obtain ⟨p3, rfl, h13, h23, HP3, HE3⟩ := hrel
      go_upto_region 3 with fail
      go_cut [47] from 31 to 49 (fun v w' => ∃ gb : Bool, v = .bool gb ∧ Hid (gb = (decide (p3 ≤ j3) && (fun x => !ltR dj[a]! x) dj[p3]!)) ∧ Hid (SW w0 b off dj w'))
      case first =>
        by_cases hle : p3 ≤ j3
        · have z1 : (p3 : Int) < (n : Int) := by omega
          have za : (a : Int) < (n : Int) := by omega
          have g1 : decide ((p3 : Int) ≤ (j3 : Int)) = true := decide_eq_true (by omega)
          have g1' : (p3 : Int) ≤ (j3 : Int) := by omega
          obtain ⟨x1, x2, y1, y2, cf, hcf, cj1, cj2, cp1, cp2, CX⟩ := RW.out.two HP3.out hsj a p3 (by omega) (by omega)
          have HCF := Lib.hid hcf
          clear hcf
          rcases hl : decide (cf < 0) with _ | _
          · have hcn : ¬ cf < 0 := of_decide_eq_false hl
            go_wp2_with fail
            go_quiet_grown (first | (go_at_call 77; exact CX.out _ _))
            go_wp2
            go_meet
            case rel => exact ⟨true, rfl, Lib.hid (by simp [← HCF.out, hl]; try omega), Lib.hid (HP3.out.grown _ _)⟩
          · have hcn : cf < 0 := of_decide_eq_true hl
            go_wp2_with fail
            go_quiet_grown (first | (go_at_call 77; exact CX.out _ _))
            go_wp2
            go_meet
            case rel => exact ⟨false, rfl, Lib.hid (by simp [← HCF.out, hl]; try omega), Lib.hid (HP3.out.grown _ _)⟩
        · have g1 : decide ((p3 : Int) ≤ (j3 : Int)) = false := decide_eq_false (by omega)
          have g1' : ¬ (p3 : Int) ≤ (j3 : Int) := by omega
          go_wp2_with fail
          go_region
          all_goals go_wp2
          go_meet
          case rel => exact ⟨false, rfl, Lib.hid (by rw [decide_eq_false hle]; rfl), Lib.hid HP3.out.drew⟩
      case rest =>
        obtain ⟨gb, rfl, HB, HQ3⟩ := hcut
        clear HP3
        cases gb with
        | true =>
          have h : p3 ≤ j3 ∧ (fun x => !ltR dj[a]! x) dj[p3]! = true := by have := HB.out; simpa using this.symm
          obtain ⟨ha, hb⟩ := h
          go_wp2
          refine ⟨⟨p3 + 1, by go_num, by omega, by omega, HQ3, Lib.hid ?_⟩, ?_⟩
          · rw [← HE3.out]; exact (su_go (fun x => !ltR dj[a]! x) dj j3 p3 ha hb).symm
          · simp only [intOf]; omega
        | false =>
          have HZ3 : Hid (¬ p3 ≤ j3 ∨ (fun x => !ltR dj[a]! x) dj[p3]! = false) := Lib.hid (by have := HB.out.symm; rw [Bool.and_eq_false_iff] at this; exact this.imp (fun h => of_decide_eq_false h) id)
          have HX3 : Hid (scanUp (fun x => !ltR dj[a]! x) dj j3 i3 = p3) := Lib.hid (by rw [← HE3.out]; exact su_stop (fun x => !ltR dj[a]! x) dj j3 p3 HZ3.out)
          clear HB HE3
          go_wp2_with fail
          go_loopw [12] (fun v wr => ∃ p4 : Nat, v = .int .i64 p4 ∧ p3 ≤ p4 + 1 ∧ p4 ≤ j3 ∧ Hid (SW w0 b off dj wr) ∧ Hid (scanDown (fun x => ltR dj[a]! x) dj p3 p4 = scanDown (fun x => ltR dj[a]! x) dj p3 j3)) (fun v _ => (intOf v).toNat)
          case atStart => exact ⟨j3, rfl, by omega, by omega, HQ3, Lib.hid rfl⟩
          case round =>
            obtain ⟨p4, rfl, h14, h24, HP4, HE4⟩ := hrel
            go_upto_region 5 with fail
            go_cut [65] from 50 to 67 (fun v w' => ∃ gb : Bool, v = .bool gb ∧ Hid (gb = (decide (p3 ≤ p4) && (fun x => ltR dj[a]! x) dj[p4]!)) ∧ Hid (SW w0 b off dj w'))
            case first =>
              by_cases hle : p3 ≤ p4
              · obtain ⟨q, rfl⟩ : ∃ q, p4 = q + 1 := ⟨p4 - 1, by omega⟩
                have wq : IntKind.i64.wrap (q : Int) = (q : Int) := by rw [IntKind.wrap_i64]; omega
                have e0 : ((q : Int) + 1).toNat = q + 1 := by omega
                have z1 : (q : Int) + 1 < (n : Int) := by omega
                have z0 : (0 : Int) ≤ (q : Int) + 1 := by omega
                have za : (a : Int) < (n : Int) := by omega
                have g1 : decide ((p3 : Int) ≤ (q : Int) + 1) = true := decide_eq_true (by omega)
                have g1' : (p3 : Int) ≤ (q : Int) + 1 := by omega
                obtain ⟨x1, x2, y1, y2, cf, hcf, cj1, cj2, cp1, cp2, CX⟩ := RW.out.two HP4.out hsj a (q + 1) (by omega) (by omega)
                have HCF := Lib.hid hcf
                clear hcf
                rcases hl : decide (cf < 0) with _ | _
                · have hcn : ¬ cf < 0 := of_decide_eq_false hl
                  go_wp2_with fail
                  go_quiet_grown (first | (go_at_call 77; exact CX.out _ _))
                  go_wp2
                  go_meet
                  case rel => exact ⟨false, rfl, Lib.hid (by simp [← HCF.out, hl]; try omega), Lib.hid (HP4.out.grown _ _)⟩
                · have hcn : cf < 0 := of_decide_eq_true hl
                  go_wp2_with fail
                  go_quiet_grown (first | (go_at_call 77; exact CX.out _ _))
                  go_wp2
                  go_meet
                  case rel => exact ⟨true, rfl, Lib.hid (by simp [← HCF.out, hl]; try omega), Lib.hid (HP4.out.grown _ _)⟩
              · have g1 : decide ((p3 : Int) ≤ (p4 : Int)) = false := decide_eq_false (by omega)
                have g1' : ¬ (p3 : Int) ≤ (p4 : Int) := by omega
                go_wp2_with fail
                go_region
                all_goals go_wp2
                go_meet
                case rel => exact ⟨false, rfl, Lib.hid (by rw [decide_eq_false hle]; rfl), Lib.hid HP4.out.drew⟩
            case rest =>
              obtain ⟨gb, rfl, HB, HQ4⟩ := hcut
              clear HP4
              cases gb with
              | true =>
                have h : p3 ≤ p4 ∧ (fun x => ltR dj[a]! x) dj[p4]! = true := by have := HB.out; simpa using this.symm
                obtain ⟨ha, hb⟩ := h
                obtain ⟨q, rfl⟩ : ∃ q, p4 = q + 1 := ⟨p4 - 1, by omega⟩
                have wq : IntKind.i64.wrap (q : Int) = (q : Int) := by rw [IntKind.wrap_i64]; omega
                go_wp2
                refine ⟨⟨q, by go_num, by omega, by omega, HQ4, Lib.hid ?_⟩, ?_⟩
                · rw [← HE4.out]; exact (sd_go (fun x => ltR dj[a]! x) dj p3 q ha hb).symm
                · simp only [intOf]; omega
              | false =>
                have HZ4 : Hid (¬ p3 ≤ p4 ∨ (fun x => ltR dj[a]! x) dj[p4]! = false) := Lib.hid (by have := HB.out.symm; rw [Bool.and_eq_false_iff] at this; exact this.imp (fun h => of_decide_eq_false h) id)
                have HX4 : Hid (scanDown (fun x => ltR dj[a]! x) dj p3 j3 = p4) := Lib.hid (by rw [← HE4.out]; exact sd_stop (fun x => ltR dj[a]! x) dj p3 p4 (by omega) HZ4.out)
                clear HB HE4
                have za : (a : Int) < (n : Int) := by omega
                by_cases hgt : p3 > p4
                · have g2 : decide ((p3 : Int) > (p4 : Int)) = true := decide_eq_true (by omega)
                  have g2' : (p4 : Int) < (p3 : Int) := by omega
                  go_wp2
                  go_ret
                  have hp := partEq_stop a i3 j3 dj p3 p4 HX3.out HX4.out hgt
                  rw [← HM.out, hp]
                  exact ⟨rfl, HQ4.out⟩
                · have g2 : decide ((p3 : Int) > (p4 : Int)) = false := decide_eq_false (by omega)
                  have g2' : ¬ (p4 : Int) < (p3 : Int) := by omega
                  have hne : p3 ≠ p4 := by
                    intro e
                    rcases HZ3.out with h | h
                    · omega
                    · rcases HZ4.out with h' | h'
                      · omega
                      · rw [← e] at h'
                        have h3 : ltR dj[a]! dj[p3]! = false := h'
                        have h2 : (!ltR dj[a]! dj[p3]!) = false := h
                        rw [h3] at h2
                        simp at h2
                  obtain ⟨q, rfl⟩ : ∃ q, p4 = q + 1 := ⟨p4 - 1, by omega⟩
                  have wq : IntKind.i64.wrap (q : Int) = (q : Int) := by rw [IntKind.wrap_i64]; omega
                  have wq2 : IntKind.i64.wrap ((q : Int) + 1 - 1) = (q : Int) := by rw [IntKind.wrap_i64]; omega
                  have wp : IntKind.i64.wrap ((p3 : Int) + 1) = (p3 : Int) + 1 := by rw [IntKind.wrap_i64]; omega
                  have e0 : ((q : Int) + 1).toNat = q + 1 := by omega
                  have z1 : (q : Int) + 1 < (n : Int) := by omega
                  have z0 : (0 : Int) ≤ (q : Int) + 1 := by omega
                  have zp : (p3 : Int) < (n : Int) := by omega
                  obtain ⟨x1, x2, y1, y2, ⟨fa, fb, fc, fd⟩, ⟨ga, gb, gc, gd⟩, ⟨ka, kb⟩, HSw⟩ := RW.out.swap2 HQ4.out hsj p3 (q + 1) (by omega) (by omega)
                  go_wp2_with fail
                  go_region
                  all_goals go_wp2
                  refine ⟨⟨p3 + 1, q, swp dj p3 (q + 1), by go_num, by go_num, by omega, by omega, by omega, by omega, by rw [size_swp]; exact hsj, HSw, Lib.hid ?_⟩, ?_⟩
                  · rw [← HM.out]
                    have h := partEq_go a i3 j3 dj p3 (q + 1) HX3.out HX4.out hgt (by omega) (by omega) (by omega)
                    rw [h]; rfl
                  · simp only [intOf]; omega
end Go.Proofs.YtndmohamjffpcaaDoor
