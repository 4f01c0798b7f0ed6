/-
  The sort of runs: parted at a pivot.
-/
import Derived.Test.YtndmohamjffpcaaDoorSortT
namespace Go.Proofs.YtndmohamjffpcaaDoor
open Go.RowKit Go.Sort Go.Shelf
set_option linter.unusedVariables false
set_option linter.unusedSimpArgs false
theorem part_stop (a i j : Nat) (d : Array R) (i2 j2 : Nat) (e1 : scanUp (fun x => ltR x d[a]!) d j i = i2) (e2 : scanDown (fun x => !ltR x d[a]!) d i2 j = j2) (h : i2 > j2) : partLoop ltR a i j d = (j2, d) := by
  rw [partLoop]; simp only [e1, e2]; rw [if_pos h]
theorem part_go (a i j : Nat) (d : Array R) (i2 j2 : Nat) (e1 : scanUp (fun x => ltR x d[a]!) d j i = i2) (e2 : scanDown (fun x => !ltR x d[a]!) d i2 j = j2) (h : ¬ i2 > j2) (h1 : i ≤ i2) (h2 : j2 ≤ j) (h0 : 1 ≤ i) : partLoop ltR a i j d = partLoop ltR a (i2 + 1) (j2 - 1) (swp d i2 j2) := by
  rw [partLoop]; simp only [e1, e2]; rw [if_neg h, dif_pos (by omega)]
set_option maxHeartbeats 4000000 in
set_option maxRecDepth 100000 in
theorem part_any {w0 : World} {b off n : Nat} (R0 : RowR w0 b off n) (cap : Nat) (d : Array R) (a c pv : Nat) (w : World) (hW : SW w0 b off d w) (hs : d.size = n) (hac : a < c) (hc : c + 1 ≤ n) (hp1 : a ≤ pv) (hp2 : pv < c + 1) :
    Calls Tryd.prog 89 #[.slice (some ⟨b, off, none⟩) n cap, .int .i64 a, .int .i64 ((c : Int) + 1), .int .i64 pv, fvR] w fun e w' => e = .returned (.tuple #[.int .i64 (Sort.partition ltR d a (c + 1) pv).1, .bool (Sort.partition ltR d a (c + 1) pv).2.1]) ∧ SW w0 b off (Sort.partition ltR d a (c + 1) pv).2.2 w' := by
  have mx := mixed
  have hn := R0.hn
  have RW := Lib.hid R0
  clear R0
  obtain ⟨x1, x2, y1, y2, ⟨fa, fb, fc, fd⟩, ⟨ga, gb, gc, gd⟩, ⟨ka, kb⟩, HS⟩ := RW.out.swap2 hW hs a pv (by omega) (by omega)
  have za : (a : Int) < (n : Int) := by omega
  have zp : (pv : Int) < (n : Int) := by omega
  have wc0 : IntKind.i64.wrap ((c : Int) + 1 - 1) = (c : Int) := by rw [IntKind.wrap_i64]; omega
  have wc : IntKind.i64.wrap (c : Int) = (c : Int) := by rw [IntKind.wrap_i64]; omega
  have wa : IntKind.i64.wrap ((a : Int) + 1) = (a : Int) + 1 := by rw [IntKind.wrap_i64]; omega
  obtain ⟨dk, hdk⟩ : ∃ dk, dk = swp d a pv := ⟨_, rfl⟩
  obtain ⟨i1, hi1⟩ : ∃ i, i = a + 1 := ⟨_, rfl⟩
  have hsk : dk.size = n := by rw [hdk, size_swp]; exact hs
  have ei1 : (a : Int) + 1 = (i1 : Int) := by omega
  rw [← hdk] at HS
  have EI1 := Lib.hid ei1
  clear ei1
  have EP : Sort.partition ltR d a (c + 1) pv = (
      let i := scanUp (fun x => ltR x dk[a]!) dk c i1
      let j := scanDown (fun x => !ltR x dk[a]!) dk i c
      if i > j then (j, true, swp dk j a) else
        let r := partLoop ltR a (i + 1) (j - 1) (swp dk i j)
        (r.1, false, swp r.2 r.1 a)) := by
    rw [hdk, hi1]; rfl
  generalize Sort.partition ltR d a (c + 1) pv = res at EP ⊢
  dsimp only at EP
  have HR := Lib.hid EP.symm
  have HDK := Lib.hid hdk
  have HI1 := Lib.hid hi1
  clear EP hdk hW hi1
  unfold fvR
  go_enter Tryd.func89, Tryd.ntmps89
  go_wp2_with fail
  go_region
  have HS1 := HS
  generalize ((((w.setCell ⟨b, off + a * 2, none⟩ (.int .i64 y1)).setCell ⟨b, off + a * 2 + 1, none⟩ (.int .i64 y2)).setCell ⟨b, off + pv * 2, none⟩ (.int .i64 x1)).setCell ⟨b, off + pv * 2 + 1, none⟩ (.int .i64 x2)).drew = W1 at HS1 ⊢
  clear fa fb fc fd ga gb gc gd ka kb HS
  go_wp2_with fail
  rw [EI1.out]
  have hi1a : a + 1 ≤ i1 := Nat.le_of_eq HI1.out.symm
  have hi1b : i1 ≤ a + 1 := Nat.le_of_eq HI1.out
  go_loopw [12] (fun v wr => ∃ p1 : Nat, v = .int .i64 p1 ∧ i1 ≤ p1 ∧ p1 ≤ c + 1 ∧ Hid (SW w0 b off dk wr) ∧ Hid (scanUp (fun x => ltR x dk[a]!) dk c p1 = scanUp (fun x => ltR x dk[a]!) dk c i1)) (fun v _ => c + 1 - (intOf v).toNat)
  case atStart => exact ⟨i1, rfl, by omega, by omega, HS1, Lib.hid rfl⟩
  case round =>
    obtain ⟨p1, rfl, h11, h21, HP1, HE1⟩ := hrel
    go_upto_region 3 with fail
    go_cut [47] from 32 to 49 (fun v w' => ∃ gb : Bool, v = .bool gb ∧ Hid (gb = (decide (p1 ≤ c) && (fun x => ltR x dk[a]!) dk[p1]!)) ∧ Hid (SW w0 b off dk w'))
    case first =>
      by_cases hle : p1 ≤ c
      · have z1 : (p1 : Int) < (n : Int) := by omega
        have za : (a : Int) < (n : Int) := by omega
        have g1 : decide ((p1 : Int) ≤ (c : Int)) = true := decide_eq_true (by omega)
        have g1' : (p1 : Int) ≤ (c : Int) := by omega
        obtain ⟨x1, x2, y1, y2, cf, hcf, cj1, cj2, cp1, cp2, CX⟩ := RW.out.two HP1.out hsk p1 a (by omega) (by omega)
        have HCF := Lib.hid hcf
        clear hcf
        rcases hl : decide (cf < 0) with _ | _
        · have hcn : ¬ cf < 0 := of_decide_eq_false hl
          go_wp2_with fail
          go_quiet_grown (first | (go_at_call 77; exact CX.out _ _))
          go_wp2
          go_meet
          case rel => exact ⟨false, rfl, Lib.hid (by simp [← HCF.out, hl]; try omega), Lib.hid (HP1.out.grown _ _)⟩
        · have hcn : cf < 0 := of_decide_eq_true hl
          go_wp2_with fail
          go_quiet_grown (first | (go_at_call 77; exact CX.out _ _))
          go_wp2
          go_meet
          case rel => exact ⟨true, rfl, Lib.hid (by simp [← HCF.out, hl]; try omega), Lib.hid (HP1.out.grown _ _)⟩
      · have g1 : decide ((p1 : Int) ≤ (c : Int)) = false := decide_eq_false (by omega)
        have g1' : ¬ (p1 : Int) ≤ (c : Int) := by omega
        go_wp2_with fail
        go_region
        all_goals go_wp2
        go_meet
        case rel => exact ⟨false, rfl, Lib.hid (by rw [decide_eq_false hle]; rfl), Lib.hid HP1.out.drew⟩
    case rest =>
      obtain ⟨gb, rfl, HB, HQ1⟩ := hcut
      clear HP1
      cases gb with
      | true =>
        have h : p1 ≤ c ∧ (fun x => ltR x dk[a]!) dk[p1]! = true := by have := HB.out; simpa using this.symm
        obtain ⟨ha, hb⟩ := h
        go_wp2
        refine ⟨⟨p1 + 1, by go_num, by omega, by omega, HQ1, Lib.hid ?_⟩, ?_⟩
        · rw [← HE1.out]; exact (su_go (fun x => ltR x dk[a]!) dk c p1 ha hb).symm
        · simp only [intOf]; omega
      | false =>
        have HZ1 : Hid (¬ p1 ≤ c ∨ (fun x => ltR x dk[a]!) dk[p1]! = false) := Lib.hid (by have := HB.out.symm; rw [Bool.and_eq_false_iff] at this; exact this.imp (fun h => of_decide_eq_false h) id)
        have HX1 : Hid (scanUp (fun x => ltR x dk[a]!) dk c i1 = p1) := Lib.hid (by rw [← HE1.out]; exact su_stop (fun x => ltR x dk[a]!) dk c p1 HZ1.out)
        clear HB HE1
        go_wp2_with fail
        go_loopw [13] (fun v wr => ∃ p2 : Nat, v = .int .i64 p2 ∧ p1 ≤ p2 + 1 ∧ p2 ≤ c ∧ Hid (SW w0 b off dk wr) ∧ Hid (scanDown (fun x => !ltR x dk[a]!) dk p1 p2 = scanDown (fun x => !ltR x dk[a]!) dk p1 c)) (fun v _ => (intOf v).toNat)
        case atStart => exact ⟨c, rfl, by omega, by omega, HQ1, Lib.hid rfl⟩
        case round =>
          obtain ⟨p2, rfl, h12, h22, HP2, HE2⟩ := hrel
          go_upto_region 5 with fail
          go_cut [66] from 50 to 68 (fun v w' => ∃ gb : Bool, v = .bool gb ∧ Hid (gb = (decide (p1 ≤ p2) && (fun x => !ltR x dk[a]!) dk[p2]!)) ∧ Hid (SW w0 b off dk w'))
          case first =>
            by_cases hle : p1 ≤ p2
            · obtain ⟨q, rfl⟩ : ∃ q, p2 = q + 1 := ⟨p2 - 1, by omega⟩
              have wq : IntKind.i64.wrap (q : Int) = (q : Int) := by rw [IntKind.wrap_i64]; omega
              have e0 : ((q : Int) + 1).toNat = q + 1 := by omega
              have z1 : (q : Int) + 1 < (n : Int) := by omega
              have z0 : (0 : Int) ≤ (q : Int) + 1 := by omega
              have za : (a : Int) < (n : Int) := by omega
              have g1 : decide ((p1 : Int) ≤ (q : Int) + 1) = true := decide_eq_true (by omega)
              have g1' : (p1 : Int) ≤ (q : Int) + 1 := by omega
              obtain ⟨x1, x2, y1, y2, cf, hcf, cj1, cj2, cp1, cp2, CX⟩ := RW.out.two HP2.out hsk (q + 1) a (by omega) (by omega)
              have HCF := Lib.hid hcf
              clear hcf
              rcases hl : decide (cf < 0) with _ | _
              · have hcn : ¬ cf < 0 := of_decide_eq_false hl
                go_wp2_with fail
                go_quiet_grown (first | (go_at_call 77; exact CX.out _ _))
                go_wp2
                go_meet
                case rel => exact ⟨true, rfl, Lib.hid (by simp [← HCF.out, hl]; try omega), Lib.hid (HP2.out.grown _ _)⟩
              · have hcn : cf < 0 := of_decide_eq_true hl
                go_wp2_with fail
                go_quiet_grown (first | (go_at_call 77; exact CX.out _ _))
                go_wp2
                go_meet
                case rel => exact ⟨false, rfl, Lib.hid (by simp [← HCF.out, hl]; try omega), Lib.hid (HP2.out.grown _ _)⟩
            · have g1 : decide ((p1 : Int) ≤ (p2 : Int)) = false := decide_eq_false (by omega)
              have g1' : ¬ (p1 : Int) ≤ (p2 : Int) := by omega
              go_wp2_with fail
              go_region
              all_goals go_wp2
              go_meet
              case rel => exact ⟨false, rfl, Lib.hid (by rw [decide_eq_false hle]; rfl), Lib.hid HP2.out.drew⟩
          case rest =>
            obtain ⟨gb, rfl, HB, HQ2⟩ := hcut
            clear HP2
            cases gb with
            | true =>
              have h : p1 ≤ p2 ∧ (fun x => !ltR x dk[a]!) dk[p2]! = true := by have := HB.out; simpa using this.symm
              obtain ⟨ha, hb⟩ := h
              obtain ⟨q, rfl⟩ : ∃ q, p2 = q + 1 := ⟨p2 - 1, by omega⟩
              have wq : IntKind.i64.wrap (q : Int) = (q : Int) := by rw [IntKind.wrap_i64]; omega
              go_wp2
              refine ⟨⟨q, by go_num, by omega, by omega, HQ2, Lib.hid ?_⟩, ?_⟩
              · rw [← HE2.out]; exact (sd_go (fun x => !ltR x dk[a]!) dk p1 q ha hb).symm
              · simp only [intOf]; omega
            | false =>
              have HZ2 : Hid (¬ p1 ≤ p2 ∨ (fun x => !ltR x dk[a]!) dk[p2]! = false) := Lib.hid (by have := HB.out.symm; rw [Bool.and_eq_false_iff] at this; exact this.imp (fun h => of_decide_eq_false h) id)
              have HX2 : Hid (scanDown (fun x => !ltR x dk[a]!) dk p1 c = p2) := Lib.hid (by rw [← HE2.out]; exact sd_stop (fun x => !ltR x dk[a]!) dk p1 p2 (by omega) HZ2.out)
              clear HB HE2
              have za : (a : Int) < (n : Int) := by omega
              by_cases hgt1 : p1 > p2
              · have g2 : decide ((p1 : Int) > (p2 : Int)) = true := decide_eq_true (by omega)
                have g2' : (p2 : Int) < (p1 : Int) := by omega
                have zj : (p2 : Int) < (n : Int) := by omega
                obtain ⟨x1, x2, y1, y2, ⟨fa, fb, fc, fd⟩, ⟨ga, gb, gc, gd⟩, ⟨ka, kb⟩, HSw⟩ := RW.out.swap2 HQ2.out hsk p2 a (by omega) (by omega)
                go_wp2_with fail
                go_region
                all_goals go_wp2
                (try simp only [Exit.inBlock, Exit.then]); refine bodyPost_ret (results_tmp2 rfl _ _ _) rfl ?_
                have er : res = (p2, true, swp dk p2 a) := HR.out.symm.trans (by simp only [HX1.out, HX2.out, if_pos hgt1])
                rw [er]
                exact ⟨rfl, HSw.out⟩
              · have g2 : decide ((p1 : Int) > (p2 : Int)) = false := decide_eq_false (by omega)
                have g2' : ¬ (p2 : Int) < (p1 : Int) := by omega
                have hne : p1 ≠ p2 := by
                  intro e
                  rcases HZ1.out with h | h
                  · omega
                  · rcases HZ2.out with h' | h'
                    · omega
                    · rw [← e] at h'
                      have h2 : ltR dk[p1]! dk[a]! = false := h
                      have h3 : (!ltR dk[p1]! dk[a]!) = false := h'
                      rw [h2] at h3
                      simp at h3
                obtain ⟨q, rfl⟩ : ∃ q, p2 = q + 1 := ⟨p2 - 1, by omega⟩
                have wq : IntKind.i64.wrap (q : Int) = (q : Int) := by rw [IntKind.wrap_i64]; omega
                have wq2 : IntKind.i64.wrap ((q : Int) + 1 - 1) = (q : Int) := by rw [IntKind.wrap_i64]; omega
                have wp : IntKind.i64.wrap ((p1 : Int) + 1) = (p1 : Int) + 1 := by rw [IntKind.wrap_i64]; omega
                have e0 : ((q : Int) + 1).toNat = q + 1 := by omega
                have z1 : (q : Int) + 1 < (n : Int) := by omega
                have z0 : (0 : Int) ≤ (q : Int) + 1 := by omega
                have zp : (p1 : Int) < (n : Int) := by omega
                obtain ⟨x1, x2, y1, y2, ⟨fa, fb, fc, fd⟩, ⟨ga, gb, gc, gd⟩, ⟨ka, kb⟩, HSw⟩ := RW.out.swap2 HQ2.out hsk p1 (q + 1) (by omega) (by omega)
                go_wp2_with fail
                go_region
                all_goals go_wp2_with fail
                clear fa fb fc fd ga gb gc gd ka kb
                go_loopw [12, 13] (fun vi vj wr => ∃ (i3 j3 : Nat) (dj : Array R), vi = .int .i64 i3 ∧ vj = .int .i64 j3 ∧ a + 1 ≤ i3 ∧ i3 ≤ j3 + 1 ∧ j3 ≤ c ∧ a ≤ j3 ∧ dj.size = n ∧ Hid (SW w0 b off dj wr) ∧ Hid (partLoop ltR a i3 j3 dj = partLoop ltR a (p1 + 1) q (swp dk p1 (q + 1)))) (fun vi vj _ => (intOf vj).toNat + 1 - (intOf vi).toNat)
                case atStart => exact ⟨p1 + 1, q, swp dk p1 (q + 1), by go_num, by go_num, by omega, by omega, by omega, by omega, by rw [size_swp]; exact hsk, HSw, Lib.hid rfl⟩
                case round =>
                  obtain ⟨i3, j3, dj, rfl, rfl, k1, k2, k3, k4, hsj, HS3, HM⟩ := hrel
                  go_wp2_with fail
                  go_loopw [12] (fun v wr => ∃ p3 : Nat, v = .int .i64 p3 ∧ i3 ≤ p3 ∧ p3 ≤ j3 + 1 ∧ Hid (SW w0 b off dj wr) ∧ Hid (scanUp (fun x => ltR x dj[a]!) dj j3 p3 = scanUp (fun x => ltR x dj[a]!) dj j3 i3)) (fun v _ => j3 + 1 - (intOf v).toNat)
                  case atStart => exact ⟨i3, rfl, by omega, by omega, HS3, Lib.hid rfl⟩
                  case round =>
                    obtain ⟨p3, rfl, h13, h23, HP3, HE3⟩ := hrel
                    go_upto_region 13 with fail
                    go_cut [120] from 105 to 122 (fun v w' => ∃ gb : Bool, v = .bool gb ∧ Hid (gb = (decide (p3 ≤ j3) && (fun x => ltR x dj[a]!) dj[p3]!)) ∧ Hid (SW w0 b off dj w'))
                    case first =>
                      by_cases hle : p3 ≤ j3
                      · have z1 : (p3 : Int) < (n : Int) := by omega
                        have za : (a : Int) < (n : Int) := by omega
                        have g1 : decide ((p3 : Int) ≤ (j3 : Int)) = true := decide_eq_true (by omega)
                        have g1' : (p3 : Int) ≤ (j3 : Int) := by omega
                        obtain ⟨x1, x2, y1, y2, cf, hcf, cj1, cj2, cp1, cp2, CX⟩ := RW.out.two HP3.out hsj p3 a (by omega) (by omega)
                        have HCF := Lib.hid hcf
                        clear hcf
                        rcases hl : decide (cf < 0) with _ | _
                        · have hcn : ¬ cf < 0 := of_decide_eq_false hl
                          go_wp2_with fail
                          go_quiet_grown (first | (go_at_call 77; exact CX.out _ _))
                          go_wp2
                          go_meet
                          case rel => exact ⟨false, rfl, Lib.hid (by simp [← HCF.out, hl]; try omega), Lib.hid (HP3.out.grown _ _)⟩
                        · have hcn : cf < 0 := of_decide_eq_true hl
                          go_wp2_with fail
                          go_quiet_grown (first | (go_at_call 77; exact CX.out _ _))
                          go_wp2
                          go_meet
                          case rel => exact ⟨true, rfl, Lib.hid (by simp [← HCF.out, hl]; try omega), Lib.hid (HP3.out.grown _ _)⟩
                      · have g1 : decide ((p3 : Int) ≤ (j3 : Int)) = false := decide_eq_false (by omega)
                        have g1' : ¬ (p3 : Int) ≤ (j3 : Int) := by omega
                        go_wp2_with fail
                        go_region
                        all_goals go_wp2
                        go_meet
                        case rel => exact ⟨false, rfl, Lib.hid (by rw [decide_eq_false hle]; rfl), Lib.hid HP3.out.drew⟩
                    case rest =>
                      obtain ⟨gb, rfl, HB, HQ3⟩ := hcut
                      clear HP3
                      cases gb with
                      | true =>
                        have h : p3 ≤ j3 ∧ (fun x => ltR x dj[a]!) dj[p3]! = true := by have := HB.out; simpa using this.symm
                        obtain ⟨ha, hb⟩ := h
                        go_wp2
                        refine ⟨⟨p3 + 1, by go_num, by omega, by omega, HQ3, Lib.hid ?_⟩, ?_⟩
                        · rw [← HE3.out]; exact (su_go (fun x => ltR x dj[a]!) dj j3 p3 ha hb).symm
                        · simp only [intOf]; omega
                      | false =>
                        have HZ3 : Hid (¬ p3 ≤ j3 ∨ (fun x => ltR x dj[a]!) dj[p3]! = false) := Lib.hid (by have := HB.out.symm; rw [Bool.and_eq_false_iff] at this; exact this.imp (fun h => of_decide_eq_false h) id)
                        have HX3 : Hid (scanUp (fun x => ltR x dj[a]!) dj j3 i3 = p3) := Lib.hid (by rw [← HE3.out]; exact su_stop (fun x => ltR x dj[a]!) dj j3 p3 HZ3.out)
                        clear HB HE3
                        go_wp2_with fail
                        go_loopw [13] (fun v wr => ∃ p4 : Nat, v = .int .i64 p4 ∧ p3 ≤ p4 + 1 ∧ p4 ≤ j3 ∧ Hid (SW w0 b off dj wr) ∧ Hid (scanDown (fun x => !ltR x dj[a]!) dj p3 p4 = scanDown (fun x => !ltR x dj[a]!) dj p3 j3)) (fun v _ => (intOf v).toNat)
                        case atStart => exact ⟨j3, rfl, by omega, by omega, HQ3, Lib.hid rfl⟩
                        case round =>
                          obtain ⟨p4, rfl, h14, h24, HP4, HE4⟩ := hrel
                          go_upto_region 15 with fail
                          go_cut [139] from 123 to 141 (fun v w' => ∃ gb : Bool, v = .bool gb ∧ Hid (gb = (decide (p3 ≤ p4) && (fun x => !ltR x dj[a]!) dj[p4]!)) ∧ Hid (SW w0 b off dj w'))
                          case first =>
                            by_cases hle : p3 ≤ p4
                            · obtain ⟨q, rfl⟩ : ∃ q, p4 = q + 1 := ⟨p4 - 1, by omega⟩
                              have wq : IntKind.i64.wrap (q : Int) = (q : Int) := by rw [IntKind.wrap_i64]; omega
                              have e0 : ((q : Int) + 1).toNat = q + 1 := by omega
                              have z1 : (q : Int) + 1 < (n : Int) := by omega
                              have z0 : (0 : Int) ≤ (q : Int) + 1 := by omega
                              have za : (a : Int) < (n : Int) := by omega
                              have g1 : decide ((p3 : Int) ≤ (q : Int) + 1) = true := decide_eq_true (by omega)
                              have g1' : (p3 : Int) ≤ (q : Int) + 1 := by omega
                              obtain ⟨x1, x2, y1, y2, cf, hcf, cj1, cj2, cp1, cp2, CX⟩ := RW.out.two HP4.out hsj (q + 1) a (by omega) (by omega)
                              have HCF := Lib.hid hcf
                              clear hcf
                              rcases hl : decide (cf < 0) with _ | _
                              · have hcn : ¬ cf < 0 := of_decide_eq_false hl
                                go_wp2_with fail
                                go_quiet_grown (first | (go_at_call 77; exact CX.out _ _))
                                go_wp2
                                go_meet
                                case rel => exact ⟨true, rfl, Lib.hid (by simp [← HCF.out, hl]; try omega), Lib.hid (HP4.out.grown _ _)⟩
                              · have hcn : cf < 0 := of_decide_eq_true hl
                                go_wp2_with fail
                                go_quiet_grown (first | (go_at_call 77; exact CX.out _ _))
                                go_wp2
                                go_meet
                                case rel => exact ⟨false, rfl, Lib.hid (by simp [← HCF.out, hl]; try omega), Lib.hid (HP4.out.grown _ _)⟩
                            · have g1 : decide ((p3 : Int) ≤ (p4 : Int)) = false := decide_eq_false (by omega)
                              have g1' : ¬ (p3 : Int) ≤ (p4 : Int) := by omega
                              go_wp2_with fail
                              go_region
                              all_goals go_wp2
                              go_meet
                              case rel => exact ⟨false, rfl, Lib.hid (by rw [decide_eq_false hle]; rfl), Lib.hid HP4.out.drew⟩
                          case rest =>
                            obtain ⟨gb, rfl, HB, HQ4⟩ := hcut
                            clear HP4
                            cases gb with
                            | true =>
                              have h : p3 ≤ p4 ∧ (fun x => !ltR x dj[a]!) dj[p4]! = true := by have := HB.out; simpa using this.symm
                              obtain ⟨ha, hb⟩ := h
                              obtain ⟨q, rfl⟩ : ∃ q, p4 = q + 1 := ⟨p4 - 1, by omega⟩
                              have wq : IntKind.i64.wrap (q : Int) = (q : Int) := by rw [IntKind.wrap_i64]; omega
                              go_wp2
                              refine ⟨⟨q, by go_num, by omega, by omega, HQ4, Lib.hid ?_⟩, ?_⟩
                              · rw [← HE4.out]; exact (sd_go (fun x => !ltR x dj[a]!) dj p3 q ha hb).symm
                              · simp only [intOf]; omega
                            | false =>
                              have HZ4 : Hid (¬ p3 ≤ p4 ∨ (fun x => !ltR x dj[a]!) dj[p4]! = false) := Lib.hid (by have := HB.out.symm; rw [Bool.and_eq_false_iff] at this; exact this.imp (fun h => of_decide_eq_false h) id)
                              have HX4 : Hid (scanDown (fun x => !ltR x dj[a]!) dj p3 j3 = p4) := Lib.hid (by rw [← HE4.out]; exact sd_stop (fun x => !ltR x dj[a]!) dj p3 p4 (by omega) HZ4.out)
                              clear HB HE4
                              have za : (a : Int) < (n : Int) := by omega
                              by_cases hgt3 : p3 > p4
                              · have g2 : decide ((p3 : Int) > (p4 : Int)) = true := decide_eq_true (by omega)
                                have g2' : (p4 : Int) < (p3 : Int) := by omega
                                have zj : (p4 : Int) < (n : Int) := by omega
                                obtain ⟨x1, x2, y1, y2, ⟨fa, fb, fc, fd⟩, ⟨ga, gb, gc, gd⟩, ⟨ka, kb⟩, HSw⟩ := RW.out.swap2 HQ4.out hsj p4 a (by omega) (by omega)
                                go_wp2_with fail
                                go_region
                                all_goals go_wp2
                                (try simp only [Exit.inBlock, Exit.then]); refine bodyPost_ret (results_tmp2 rfl _ _ _) rfl ?_
                                have hp := part_stop a i3 j3 dj p3 p4 HX3.out HX4.out hgt3
                                have er : res = (p4, false, swp dj p4 a) := HR.out.symm.trans (by simp only [HX1.out, HX2.out, if_neg hgt1, Nat.add_sub_cancel]; rw [← HM.out, hp])
                                rw [er]
                                exact ⟨rfl, HSw.out⟩
                              · have g2 : decide ((p3 : Int) > (p4 : Int)) = false := decide_eq_false (by omega)
                                have g2' : ¬ (p4 : Int) < (p3 : Int) := by omega
                                have hne : p3 ≠ p4 := by
                                  intro e
                                  rcases HZ3.out with h | h
                                  · omega
                                  · rcases HZ4.out with h' | h'
                                    · omega
                                    · rw [← e] at h'
                                      have h2 : ltR dj[p3]! dj[a]! = false := h
                                      have h3 : (!ltR dj[p3]! dj[a]!) = false := h'
                                      rw [h2] at h3
                                      simp at h3
                                obtain ⟨r, rfl⟩ : ∃ r, p4 = r + 1 := ⟨p4 - 1, by omega⟩
                                have wr9 : IntKind.i64.wrap (r : Int) = (r : Int) := by rw [IntKind.wrap_i64]; omega
                                have wr92 : IntKind.i64.wrap ((r : Int) + 1 - 1) = (r : Int) := by rw [IntKind.wrap_i64]; omega
                                have wp : IntKind.i64.wrap ((p3 : Int) + 1) = (p3 : Int) + 1 := by rw [IntKind.wrap_i64]; omega
                                have e0 : ((r : Int) + 1).toNat = r + 1 := by omega
                                have z1 : (r : Int) + 1 < (n : Int) := by omega
                                have z0 : (0 : Int) ≤ (r : Int) + 1 := by omega
                                have zp : (p3 : Int) < (n : Int) := by omega
                                obtain ⟨x1, x2, y1, y2, ⟨fa, fb, fc, fd⟩, ⟨ga, gb, gc, gd⟩, ⟨ka, kb⟩, HSw⟩ := RW.out.swap2 HQ4.out hsj p3 (r + 1) (by omega) (by omega)
                                go_wp2_with fail
                                go_region
                                all_goals go_wp2
                                refine ⟨⟨p3 + 1, r, swp dj p3 (r + 1), by go_num, by go_num, by omega, by omega, by omega, by omega, by rw [size_swp]; exact hsj, HSw, Lib.hid ?_⟩, ?_⟩
                                · rw [← HM.out]
                                  have h := part_go a i3 j3 dj p3 (r + 1) HX3.out HX4.out hgt3 (by omega) (by omega) (by omega)
                                  rw [h]; rfl
                                · simp only [intOf]; omega
end Go.Proofs.YtndmohamjffpcaaDoor
