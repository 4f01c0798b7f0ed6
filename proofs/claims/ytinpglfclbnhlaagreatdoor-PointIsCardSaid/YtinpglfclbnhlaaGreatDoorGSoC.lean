/-
  Joined: SortR, SortX, SortY, SortZ, SortW.
-/
import Derived.Test.YtinpglfclbnhlaaGreatDoorGSoB
import Derived.Lib.BitFns
import Derived.Sort.LotD5
import Derived.Laws.Bits64
import Derived.Laws.Bits64b
import Derived.Test.YtinpglfclbnhlaaGreatDoorGSoA
import Derived.Sort.Walk13a
import Derived.Sort.AssemblyPlain
import Derived.Test.YtinpglfclbnhlaaGreatDoorGBa
namespace Go.Proofs.YtinpglfclbnhlaaGreatDoor
open Go.RowKit Go.Sort Go.Shelf
set_option linter.unusedVariables false
set_option linter.unusedSimpArgs false
theorem ss_go (d : Array R) (b i : Nat) (h : i < b) (hl : ltR d[i]! d[i - 1]! = false) : scanSorted ltR d b i = scanSorted ltR d b (i + 1) := by
  rw [scanSorted, if_pos (by simp [h, hl])]
theorem ss_stop (d : Array R) (b i : Nat) (h : ¬ i < b ∨ ltR d[i]! d[i - 1]! = true) : scanSorted ltR d b i = i := by
  rw [scanSorted, if_neg]
  rcases h with h | h <;> simp [h]
theorem up_go (d : Array R) (b j : Nat) (h : j < b) (hl : ltR d[j]! d[j - 1]! = true) : shiftUp ltR b j d = shiftUp ltR b (j + 1) (swp d j (j - 1)) := by
  rw [shiftUp, if_pos h, if_neg (by simp [hl])]
theorem up_stop (d : Array R) (b j : Nat) (h : ¬ j < b ∨ ltR d[j]! d[j - 1]! = false) : shiftUp ltR b j d = d := by
  rw [shiftUp]
  by_cases c : j < b
  · rw [if_pos c]; rcases h with h | h
    · exact absurd c h
    · rw [if_pos (by simp [h])]
  · rw [if_neg c]
theorem down_go (d : Array R) (j : Nat) (hl : ltR d[j + 1]! d[j]! = true) : shiftDown ltR (j + 1) d = shiftDown ltR j (swp d (j + 1) j) := by
  rw [shiftDown, if_neg (by simp [hl])]
theorem down_stop (d : Array R) (j : Nat) (hl : ltR d[j + 1]! d[j]! = false) : shiftDown ltR (j + 1) d = d := by
  rw [shiftDown, if_pos (by simp [hl])]
theorem down_size : ∀ (j : Nat) (d : Array R), (shiftDown ltR j d).size = d.size := by
  intro j
  induction j with
  | zero => intro d; rw [shiftDown]
  | succ j ih =>
    intro d
    cases h : ltR d[j + 1]! d[j]! with
    | true => rw [down_go d j h, ih, size_swp]
    | false => rw [down_stop d j h]
theorem up_size (b : Nat) : ∀ (m j : Nat) (d : Array R), b - j ≤ m → (shiftUp ltR b j d).size = d.size := by
  intro m
  induction m with
  | zero => intro j d h; rw [up_stop d b j (.inl (by omega))]
  | succ m ih =>
    intro j d h
    by_cases c : j < b
    · cases hl : ltR d[j]! d[j - 1]! with
      | true => rw [up_go d b j c hl, ih _ _ (by omega), size_swp]
      | false => rw [up_stop d b j (.inr hl)]
    · rw [up_stop d b j (.inl c)]
theorem pi_step (a b s i : Nat) (d : Array R) (k : Nat) (hk : scanSorted ltR d b i = k) : partialIns ltR a b (s + 1) i d =
    if k = b then (d, true) else if b - a < 50 then (d, false) else
      partialIns ltR a b s k (if b - k ≥ 2 then shiftUp ltR b (k + 1) (if k - a ≥ 2 then shiftDown ltR (k - 1) (swp d k (k - 1)) else swp d k (k - 1)) else (if k - a ≥ 2 then shiftDown ltR (k - 1) (swp d k (k - 1)) else swp d k (k - 1))) := by
  rw [partialIns]; simp only [hk]
set_option maxHeartbeats 4000000 in
set_option maxRecDepth 100000 in
theorem pins_any {w0 : World} {b off n : Nat} (R0 : RowR w0 b off n) (cap : Nat) (d : Array R) (a c : Nat) (w : World) (hW : SW w0 b off d w) (hs : d.size = n) (hac : a < c) (hc : c + 1 ≤ n) :
    Calls Tryz.prog 102 #[.slice (some ⟨b, off, none⟩) n cap, .int .i64 a, .int .i64 ((c : Int) + 1), fvR] w fun e w' => e = .returned (.bool (Sort.partialInsertionSort ltR d a (c + 1)).2) ∧ SW w0 b off (Sort.partialInsertionSort ltR d a (c + 1)).1 w' := by
  have mx := mixed
  have hn := R0.hn
  have RW := Lib.hid R0
  clear R0
  have HW := Lib.hid hW
  clear hW
  have wa : IntKind.i64.wrap ((a : Int) + 1) = (a : Int) + 1 := by rw [IntKind.wrap_i64]; omega
  unfold fvR
  unfold Sort.partialInsertionSort
  go_enter Tryz.func102, Tryz.ntmps102
  go_wp2
  go_loopw [9, 10] (fun vi vj wr => ∃ (i s : Nat) (x : Int) (dk : Array R), vi = .int .i64 i ∧ vj = .int .i64 x ∧ x = 5 - (s : Int) ∧ s ≤ 5 ∧ a + 1 ≤ i ∧ i ≤ c + 1 ∧ dk.size = n ∧ Hid (SW w0 b off dk wr) ∧ Hid (partialIns ltR a (c + 1) s i dk = partialIns ltR a (c + 1) 5 (a + 1) d)) (fun _ vj _ => (5 - intOf vj).toNat)
  case atStart => exact ⟨a + 1, 5, _, d, by go_num, rfl, by omega, by omega, by omega, by omega, hs, HW, Lib.hid rfl⟩
  case round =>
    obtain ⟨i, s, x, dk, rfl, rfl, hx, hs5, hai, hic, hsk, HS, HM⟩ := hrel
    cases s with
    | zero =>
      have ex : x = 5 := by omega
      subst ex
      clear hx
      go_wp2
      go_ret
      rw [← HM.out]
      exact ⟨rfl, HS.out⟩
    | succ s =>
      have hx5 : x < 5 := by omega
      have hx0 : 0 ≤ x := by omega
      have HXX := Lib.hid hx
      clear hx
      have gx : decide (x < 5) = true := decide_eq_true hx5
      go_wp2_with fail
      go_loopw [9] (fun v wr => ∃ p : Nat, v = .int .i64 p ∧ i ≤ p ∧ p ≤ c + 1 ∧ Hid (SW w0 b off dk wr) ∧ Hid (scanSorted ltR dk (c + 1) p = scanSorted ltR dk (c + 1) i)) (fun v _ => c + 1 - (intOf v).toNat)
      case atStart => exact ⟨i, rfl, by omega, by omega, HS, Lib.hid rfl⟩
      case round =>
        obtain ⟨p, rfl, h1, h2, HP, HE⟩ := hrel
        go_upto_region 5 with fail
        go_cut [36] from 19 to 38 (fun v w' => ∃ gb : Bool, v = .bool gb ∧ Hid (gb = (decide (p < c + 1) && !ltR dk[p]! dk[p - 1]!)) ∧ Hid (SW w0 b off dk w'))
        case first =>
          by_cases hle : p < c + 1
          · obtain ⟨q, rfl⟩ : ∃ q, p = q + 1 := ⟨p - 1, by omega⟩
            have wq : IntKind.i64.wrap (q : Int) = (q : Int) := by rw [IntKind.wrap_i64]; omega
            have e0 : ((q : Int) + 1).toNat = q + 1 := by omega
            have z2 : (q : Int) < (n : Int) := by omega
            have z0 : (0 : Int) ≤ (q : Int) + 1 := by omega
            have z1 : (q : Int) + 1 < (n : Int) := by omega
            have g1 : decide ((q : Int) + 1 < (c : Int) + 1) = true := decide_eq_true (by omega)
            have g1' : (q : Int) + 1 < (c : Int) + 1 := by omega
            have g1b : (q : Int) < (c : Int) := by omega
            have g1c : decide ((q : Int) < (c : Int)) = true := decide_eq_true g1b
            obtain ⟨x1, x2, y1, y2, cf, hcf, cj1, cj2, cp1, cp2, CX⟩ := RW.out.two HP.out hsk (q + 1) q (by omega) (by omega)
            have HCF := Lib.hid hcf
            clear hcf
            rcases hl : decide (cf < 0) with _ | _
            · have hcn : ¬ cf < 0 := of_decide_eq_false hl
              go_wp2_with fail
              go_quiet_grown (first | (go_at_call 79; exact CX.out _ _))
              go_wp2
              go_meet
              case rel => exact ⟨true, rfl, Lib.hid (by rw [show q + 1 - 1 = q from rfl]; simp [← HCF.out, hl]; try omega), Lib.hid (HP.out.grown _ _)⟩
            · have hcn : cf < 0 := of_decide_eq_true hl
              go_wp2_with fail
              go_quiet_grown (first | (go_at_call 79; exact CX.out _ _))
              go_wp2
              go_meet
              case rel => exact ⟨false, rfl, Lib.hid (by rw [show q + 1 - 1 = q from rfl]; simp [← HCF.out, hl]; try omega), Lib.hid (HP.out.grown _ _)⟩
          · have g1 : decide ((p : Int) < (c : Int) + 1) = false := decide_eq_false (by omega)
            have g1' : ¬ (p : Int) < (c : Int) + 1 := by omega
            go_wp2_with fail
            go_region
            all_goals go_wp2
            go_meet
            case rel => exact ⟨false, rfl, Lib.hid (by rw [decide_eq_false hle]; rfl), Lib.hid HP.out.drew⟩
        case rest =>
          obtain ⟨gb, rfl, HB, HQ⟩ := hcut
          clear HP
          cases gb with
          | true =>
            have h : p < c + 1 ∧ ltR dk[p]! dk[p - 1]! = false := by have := HB.out; simpa using this.symm
            obtain ⟨ha, hb⟩ := h
            go_wp2
            refine ⟨⟨p + 1, by go_num, by omega, by omega, HQ, Lib.hid ?_⟩, ?_⟩
            · rw [← HE.out]; exact (ss_go dk (c + 1) p ha hb).symm
            · simp only [intOf]; omega
          | false =>
            have HZ : Hid (¬ p < c + 1 ∨ ltR dk[p]! dk[p - 1]! = true) := Lib.hid (by have := HB.out.symm; rw [Bool.and_eq_false_iff] at this; exact this.imp (fun h => of_decide_eq_false h) (fun h => by simpa using h))
            have HX : Hid (scanSorted ltR dk (c + 1) i = p) := Lib.hid (by rw [← HE.out]; exact ss_stop dk (c + 1) p HZ.out)
            clear HB HE
            have HT := Lib.hid (pi_step a (c + 1) s i dk p HX.out)
            have wq : IntKind.i64.wrap ((p : Int) - 1) = (p : Int) - 1 := by rw [IntKind.wrap_i64]; omega
            have wl : IntKind.i64.wrap ((c : Int) + 1 - (a : Int)) = (c : Int) + 1 - (a : Int) := by rw [IntKind.wrap_i64]; omega
            have e1 : ((p : Int) - 1).toNat = p - 1 := by omega
            have z0 : (0 : Int) ≤ (p : Int) - 1 := by omega
            have z2 : (p : Int) - 1 < (n : Int) := by omega
            have u0 : IntKind.i64.wrap ((p : Int) - (a : Int)) = (p : Int) - (a : Int) := by rw [IntKind.wrap_i64]; omega
            have u1 : IntKind.i64.wrap ((c : Int) + 1 - (p : Int)) = (c : Int) + 1 - (p : Int) := by rw [IntKind.wrap_i64]; omega
            have u2 : IntKind.i64.wrap ((p : Int) + 1) = (p : Int) + 1 := by rw [IntKind.wrap_i64]; omega
            by_cases hE : p = c + 1
            · have b1 : ((p : Int) == (c : Int) + 1) = true := by simp; omega
              have b2 : decide ((p : Int) = (c : Int) + 1) = true := decide_eq_true (by omega)
              have HE2 := Lib.hid hE
              clear hE
              go_wp2
              go_ret
              have er := HT.out
              rw [if_pos HE2.out, HM.out] at er
              rw [er]
              exact ⟨rfl, HQ.out⟩
            · have b1 : ((p : Int) == (c : Int) + 1) = false := by simp; omega
              have b2 : decide ((p : Int) = (c : Int) + 1) = false := decide_eq_false (by omega)
              have b3 : ¬ (p : Int) = (c : Int) + 1 := by omega
              have z1 : (p : Int) < (n : Int) := by omega
              by_cases hF : c + 1 - a < 50
              · have d1 : decide ((c : Int) + 1 - (a : Int) < 50) = true := decide_eq_true (by omega)
                have d2 : (c : Int) + 1 - (a : Int) < 50 := by omega
                go_wp2
                go_ret
                have er := HT.out
                rw [if_neg hE, if_pos hF, HM.out] at er
                rw [er]
                exact ⟨rfl, HQ.out⟩
              · have d1 : decide ((c : Int) + 1 - (a : Int) < 50) = false := decide_eq_false (by omega)
                have d2 : ¬ (c : Int) + 1 - (a : Int) < 50 := by omega
                obtain ⟨x1, x2, y1, y2, ⟨fa, fb, fc, fd⟩, ⟨ga, gb, gc, gd⟩, ⟨ka, kb⟩, HSw⟩ := RW.out.swap2 HQ.out hsk p (p - 1) (by omega) (by omega)
                go_upto_if 65 with (go_region)
                clear fa fb fc fd ga gb gc gd ka kb
                go_cut [11] from 65 to 100 (fun v11 w' => Hid (SW w0 b off (if p - a ≥ 2 then shiftDown ltR (p - 1) (swp dk p (p - 1)) else swp dk p (p - 1)) w'))
                case first =>
                  by_cases hb : p - a ≥ 2
                  · have f1 : decide ((p : Int) - (a : Int) ≥ 2) = true := decide_eq_true (by omega)
                    have f2 : (2 : Int) ≤ (p : Int) - (a : Int) := by omega
                    go_wp2_with fail
                    go_loopw [11] (fun v wr => ∃ (p1 : Nat) (dj : Array R), v = .int .i64 p1 ∧ p1 ≤ p - 1 ∧ dj.size = n ∧ Hid (SW w0 b off dj wr) ∧ Hid (shiftDown ltR p1 dj = shiftDown ltR (p - 1) (swp dk p (p - 1)))) (fun v _ => (intOf v).toNat)
                    case atStart => exact ⟨p - 1, _, by first | go_num | (congr 1; omega), by omega, by rw [size_swp]; exact hsk, HSw, Lib.hid rfl⟩
                    case round =>
                      obtain ⟨p1, dj, rfl, hp1, hsj, HJ, HD⟩ := hrel
                      cases p1 with
                      | zero =>
                        go_wp2
                        go_meet
                        case rel => exact Lib.hid (by rw [if_pos hb, ← HD.out, shiftDown]; exact HJ.out)
                      | succ r =>
                        have wr1 : IntKind.i64.wrap (r : Int) = (r : Int) := by rw [IntKind.wrap_i64]; omega
                        have e1 : ((r : Int) + 1).toNat = r + 1 := by omega
                        have y1' : (r : Int) + 1 < (n : Int) := by omega
                        have y2' : (r : Int) < (n : Int) := by omega
                        have y0 : (0 : Int) ≤ (r : Int) + 1 := by omega
                        have gr : decide ((1 : Int) ≤ (r : Int) + 1) = true := decide_eq_true (by omega)
                        obtain ⟨x1, x2, y1, y2, cf, hcf, cj1, cj2, cp1, cp2, CX⟩ := RW.out.two HJ.out hsj (r + 1) r (by omega) (by omega)
                        have HCF := Lib.hid hcf
                        clear hcf
                        rcases hl : decide (cf < 0) with _ | _
                        · have hcn : ¬ cf < 0 := of_decide_eq_false hl
                          go_wp2_with fail
                          go_quiet_grown (first | (go_at_call 79; exact CX.out _ _))
                          go_wp2
                          go_meet
                          case rel => exact Lib.hid (by rw [if_pos hb, ← HD.out, down_stop dj r (by rw [← HCF.out, hl])]; exact HJ.out.grown _ _)
                        · have hcn : cf < 0 := of_decide_eq_true hl
                          go_wp2_with fail
                          go_quiet_grown (first | (go_at_call 79; exact CX.out _ _))
                          have HG := Lib.hid (HJ.out.grown nq osq)
                          generalize grow (wr.drewN nq) osq = W3 at HG ⊢
                          clear cj1 cj2 cp1 cp2
                          obtain ⟨x1, x2, y1, y2, ⟨fa, fb, fc, fd⟩, ⟨ga, gb, gc, gd⟩, ⟨ka, kb⟩, HSx⟩ := RW.out.swap2 HG.out hsj (r + 1) r (by omega) (by omega)
                          go_wp2_with fail
                          go_region
                          all_goals go_wp2
                          refine ⟨⟨r, _, by go_num, by omega, by rw [size_swp]; exact hsj, HSx, Lib.hid ?_⟩, ?_⟩
                          · rw [← HD.out, down_go dj r (by rw [← HCF.out, hl])]
                          · simp only [intOf]; omega
                  · have f1 : decide ((p : Int) - (a : Int) ≥ 2) = false := decide_eq_false (by omega)
                    have f2 : ¬ (2 : Int) ≤ (p : Int) - (a : Int) := by omega
                    go_wp2
                    go_meet
                    case rel => rw [if_neg hb]; exact HSw
                case rest =>
                  clear HSw
                  obtain ⟨D, hD⟩ : ∃ D, D = (if p - a ≥ 2 then shiftDown ltR (p - 1) (swp dk p (p - 1)) else swp dk p (p - 1)) := ⟨_, rfl⟩
                  rw [← hD] at hcut
                  have hsD : D.size = n := by rw [hD]; split <;> simp only [down_size, size_swp, hsk]
                  have ER : Hid (partialIns ltR a (c + 1) s p (if c + 1 - p ≥ 2 then shiftUp ltR (c + 1) (p + 1) D else D) = partialIns ltR a (c + 1) 5 (a + 1) d) := Lib.hid (by
                    have er := HT.out
                    rw [if_neg hE, if_neg hF, HM.out, ← hD] at er
                    exact er.symm)
                  have HQD := hcut
                  clear hD hcut HT HM HX HQ
                  go_upto_if 104 with fail
                  by_cases hb : c + 1 - p ≥ 2
                  · have f1 : decide ((c : Int) + 1 - (p : Int) ≥ 2) = true := decide_eq_true (by omega)
                    have f2 : (2 : Int) ≤ (c : Int) + 1 - (p : Int) := by omega
                    go_wp2_with fail
                    go_loopw [12] (fun v wr => ∃ (p1 : Nat) (dj : Array R), v = .int .i64 ((p1 : Int) + 1) ∧ p ≤ p1 ∧ p1 ≤ c ∧ dj.size = n ∧ Hid (SW w0 b off dj wr) ∧ Hid (shiftUp ltR (c + 1) (p1 + 1) dj = shiftUp ltR (c + 1) (p + 1) D)) (fun v _ => c + 1 - (intOf v).toNat)
                    case atStart => exact ⟨p, D, rfl, by omega, by omega, hsD, HQD, Lib.hid rfl⟩
                    case round =>
                      obtain ⟨r, dj, rfl, hr0, hr1, hsj, HJ, HD⟩ := hrel
                      have wr1 : IntKind.i64.wrap (r : Int) = (r : Int) := by rw [IntKind.wrap_i64]; omega
                      have e1 : ((r : Int) + 1).toNat = r + 1 := by omega
                      by_cases hrc : r < c
                      · have gr : decide ((r : Int) + 1 < (c : Int) + 1) = true := decide_eq_true (by omega)
                        have gr' : (r : Int) + 1 < (c : Int) + 1 := by omega
                        have gr2 : (r : Int) < (c : Int) := by omega
                        have wr2 : IntKind.i64.wrap ((r : Int) + 1 + 1) = (r : Int) + 1 + 1 := by rw [IntKind.wrap_i64]; omega
                        have y1' : (r : Int) + 1 < (n : Int) := by omega
                        have y2' : (r : Int) < (n : Int) := by omega
                        have y0 : (0 : Int) ≤ (r : Int) + 1 := by omega
                        obtain ⟨x1, x2, y1, y2, cf, hcf, cj1, cj2, cp1, cp2, CX⟩ := RW.out.two HJ.out hsj (r + 1) r (by omega) (by omega)
                        have HCF := Lib.hid hcf
                        clear hcf
                        rcases hl : decide (cf < 0) with _ | _
                        · have hcn : ¬ cf < 0 := of_decide_eq_false hl
                          go_wp2_with fail
                          go_quiet_grown (first | (go_at_call 79; exact CX.out _ _))
                          go_wp2
                          refine ⟨⟨p, s, x + 1, dj, rfl, rfl, by have := HXX.out; omega, by omega, by omega, by omega, hsj, Lib.hid (HJ.out.grown _ _), Lib.hid (by rw [← ER.out, if_pos hb, ← HD.out, up_stop dj (c + 1) (r + 1) (.inr (by rw [show r + 1 - 1 = r from rfl, ← HCF.out, hl]))])⟩, by have := HXX.out; simp only [intOf]; omega⟩
                        · have hcn : cf < 0 := of_decide_eq_true hl
                          go_wp2_with fail
                          go_quiet_grown (first | (go_at_call 79; exact CX.out _ _))
                          have HG := Lib.hid (HJ.out.grown nq osq)
                          generalize grow (wr.drewN nq) osq = W3 at HG ⊢
                          clear cj1 cj2 cp1 cp2
                          obtain ⟨x1, x2, y1, y2, ⟨fa, fb, fc, fd⟩, ⟨ga, gb, gc, gd⟩, ⟨ka, kb⟩, HSx⟩ := RW.out.swap2 HG.out hsj (r + 1) r (by omega) (by omega)
                          go_wp2_with fail
                          go_region
                          all_goals go_wp2
                          refine ⟨⟨r + 1, _, by go_num, by omega, by omega, by rw [size_swp]; exact hsj, HSx, Lib.hid ?_⟩, ?_⟩
                          · rw [← HD.out, up_go dj (c + 1) (r + 1) (by omega) (by rw [show r + 1 - 1 = r from rfl, ← HCF.out, hl])]
                            rfl
                          · simp only [intOf]; omega
                      · have gr : decide ((r : Int) + 1 < (c : Int) + 1) = false := decide_eq_false (by omega)
                        have gr' : ¬ (r : Int) + 1 < (c : Int) + 1 := by omega
                        have gr2 : ¬ (r : Int) < (c : Int) := by omega
                        go_wp2
                        refine ⟨⟨p, s, x + 1, dj, rfl, rfl, by have := HXX.out; omega, by omega, by omega, by omega, hsj, HJ, Lib.hid (by rw [← ER.out, if_pos hb, ← HD.out, up_stop dj (c + 1) (r + 1) (.inl (by omega))])⟩, by have := HXX.out; simp only [intOf]; omega⟩
                  · have f1 : decide ((c : Int) + 1 - (p : Int) ≥ 2) = false := decide_eq_false (by omega)
                    have f2 : ¬ (2 : Int) ≤ (c : Int) + 1 - (p : Int) := by omega
                    go_wp2
                    refine ⟨⟨p, s, x + 1, D, rfl, rfl, by have := HXX.out; omega, by omega, by omega, by omega, hsD, HQD, Lib.hid (by rw [← ER.out, if_neg hb])⟩, by have := HXX.out; simp only [intOf]; omega⟩
end Go.Proofs.YtinpglfclbnhlaaGreatDoor

namespace Go.Proofs.YtinpglfclbnhlaaGreatDoor
open Go.RowKit Go.Sort Go.Shelf
set_option linter.unusedVariables false
set_option linter.unusedSimpArgs false
theorem len_eq (x : Nat) (h : x < 2 ^ 64) : Lib.bitLen x = bitsLen x := by
  induction x using Nat.strongRecOn with
  | _ x ih =>
    unfold bitsLen
    by_cases h0 : x = 0
    · subst h0; rfl
    · rw [Lib.bitLen_half x h0 h, ih (x / 2) (by omega) (by omega), if_neg h0, Nat.log2_def x]
      unfold bitsLen
      by_cases h2 : 2 ≤ x
      · rw [if_pos h2, if_neg (by omega)]; omega
      · obtain rfl : x = 1 := by omega
        simp
set_option maxHeartbeats 4000000 in
set_option maxRecDepth 100000 in
theorem len64_any (x : Int) (w : World) (h0 : 0 ≤ x) (h1 : x ≤ 4294967295) :
    Calls Tryz.prog 106 #[.int .u64 x] w fun e w' => e = .returned (.int .i64 (bitsLen x.toNat)) ∧ w = w' := by
  rw [← len_eq x.toNat (by omega)]
  have z : decide (4294967296 ≤ x) = false := decide_eq_false (by omega)
  have z' : ¬ 4294967296 ≤ x := by omega
  have cs : (65536 ≤ x ∧ 256 ≤ x / 65536) ∨ (65536 ≤ x ∧ x / 65536 < 256) ∨ (x < 65536 ∧ 256 ≤ x) ∨ (x < 65536 ∧ x < 256) := by omega
  rcases cs with ⟨c1, c2⟩ | ⟨c1, c2⟩ | ⟨c1, c2⟩ | ⟨c1, c2⟩
  · have g : 0 = 0 := rfl
    have b0 : 0 ≤ x / 65536 / 256 := by omega
    have b1 : x / 65536 / 256 ≤ 255 := by omega
    have l := Lib.bitLen_le8' (x / 65536 / 256) b0 b1
    have q := Lib.len8_of (x / 65536 / 256) b0 b1
    have s := Lib.bitLen_shift24 x.toNat (by omega) (by omega)
    have e : (x / 65536 / 256).toNat = x.toNat / 16777216 := by omega
    rw [e] at l q
    have r : Hid ((Lib.bitLen x.toNat : Int) = 24 + Lib.len8 (x / 65536 / 256)) := by unfold Hid; omega
    obtain ⟨m, hm⟩ : ∃ m, m = Lib.len8 (x / 65536 / 256) := ⟨_, rfl⟩
    have m0 : 0 ≤ m := by omega
    have m1 : m ≤ 8 := by omega
    rw [r.out, ← hm]
    have HM := Lib.hid hm.symm
    clear l q hm r s e
    go_enter Tryz.func106, Tryz.ntmps106
    go_wp2
    rw [HM.out]
    go_ret
    exact ⟨congrArg Ending.returned (congrArg (Value.int IntKind.i64) (by simp only [wrap64]; omega)), rfl⟩
  · have g : x / 65536 < 256 := by omega
    have b0 : 0 ≤ x / 65536 := by omega
    have b1 : x / 65536 ≤ 255 := by omega
    have l := Lib.bitLen_le8' (x / 65536) b0 b1
    have q := Lib.len8_of (x / 65536) b0 b1
    have s := Lib.bitLen_shift16 x.toNat (by omega) (by omega)
    have e : (x / 65536).toNat = x.toNat / 65536 := by omega
    rw [e] at l q
    have r : Hid ((Lib.bitLen x.toNat : Int) = 16 + Lib.len8 (x / 65536)) := by unfold Hid; omega
    obtain ⟨m, hm⟩ : ∃ m, m = Lib.len8 (x / 65536) := ⟨_, rfl⟩
    have m0 : 0 ≤ m := by omega
    have m1 : m ≤ 8 := by omega
    rw [r.out, ← hm]
    have HM := Lib.hid hm.symm
    clear l q hm r s e
    go_enter Tryz.func106, Tryz.ntmps106
    go_wp2
    rw [HM.out]
    go_ret
    exact ⟨congrArg Ending.returned (congrArg (Value.int IntKind.i64) (by simp only [wrap64]; omega)), rfl⟩
  · have g : x < 65536 := by omega
    have b0 : 0 ≤ x / 256 := by omega
    have b1 : x / 256 ≤ 255 := by omega
    have l := Lib.bitLen_le8' (x / 256) b0 b1
    have q := Lib.len8_of (x / 256) b0 b1
    have s := Lib.bitLen_shift8 x.toNat (by omega) (by omega)
    have e : (x / 256).toNat = x.toNat / 256 := by omega
    rw [e] at l q
    have r : Hid ((Lib.bitLen x.toNat : Int) = 8 + Lib.len8 (x / 256)) := by unfold Hid; omega
    obtain ⟨m, hm⟩ : ∃ m, m = Lib.len8 (x / 256) := ⟨_, rfl⟩
    have m0 : 0 ≤ m := by omega
    have m1 : m ≤ 8 := by omega
    rw [r.out, ← hm]
    have HM := Lib.hid hm.symm
    clear l q hm r s e
    go_enter Tryz.func106, Tryz.ntmps106
    go_wp2
    rw [HM.out]
    go_ret
    exact ⟨congrArg Ending.returned (congrArg (Value.int IntKind.i64) (by simp only [wrap64]; omega)), rfl⟩
  · have g : x < 256 := by omega
    have b0 : 0 ≤ x := by omega
    have b1 : x ≤ 255 := by omega
    have l := Lib.bitLen_le8' (x) b0 b1
    have q := Lib.len8_of (x) b0 b1
    have r : Hid ((Lib.bitLen x.toNat : Int) = Lib.len8 (x)) := by unfold Hid; omega
    obtain ⟨m, hm⟩ : ∃ m, m = Lib.len8 (x) := ⟨_, rfl⟩
    have m0 : 0 ≤ m := by omega
    have m1 : m ≤ 8 := by omega
    rw [r.out, ← hm]
    have HM := Lib.hid hm.symm
    clear l q hm r
    go_enter Tryz.func106, Tryz.ntmps106
    go_wp2
    rw [HM.out]
    go_ret
    exact ⟨congrArg Ending.returned (congrArg (Value.int IntKind.i64) (by simp only [wrap64]; omega)), rfl⟩
theorem len_any (x : Int) (w : World) (h0 : 0 ≤ x) (h1 : x ≤ 4294967295) :
    Calls Tryz.prog 88 #[.int .u64 x] w fun e w' => e = .returned (.int .i64 (bitsLen x.toNat)) ∧ w = w' := by
  have C := Lib.hid (fun w => len64_any x w h0 h1)
  go_enter Tryz.func88, Tryz.ntmps88
  go_wp2_with fail; refine ((C.out _)).mono ?_; rintro e w' ⟨rfl, rfl⟩
  go_wp2
  go_ret
  exact ⟨rfl, rfl⟩
theorem two_pow_wrap (k : Nat) (hk : k ≤ 62) : IntKind.u64.wrap ((2 : Int) ^ k) = ((1 <<< k : Nat) : Int) := by
  have h : (2 : Nat) ^ k ≤ 2 ^ 62 := Nat.pow_le_pow_right (by decide) hk
  rw [IntKind.wrap_u64, Nat.one_shiftLeft, show ((2 : Int) ^ k) = ((2 ^ k : Nat) : Int) by push_cast; rfl]
  generalize (2 : Nat) ^ k = p at h
  omega
theorem pow_any (n : Nat) (w : World) (h1 : n ≤ 4294967295) :
    Calls Tryz.prog 110 #[.int .i64 n] w fun e w' => e = .returned (.int .u64 ((1 <<< bitsLen n : Nat) : Int)) ∧ w = w' := by
  have C := Lib.hid (fun w => len_any n w (by omega) (by omega))
  rw [Int.toNat_natCast] at C
  have hk : bitsLen n ≤ 62 := (bitsLen_le_iff n 62).2 (by omega)
  have hp := two_pow_wrap (bitsLen n) hk
  have wr : IntKind.u64.wrap (n : Int) = n := by simp [IntKind.wrap, IntKind.bits, IntKind.signed]; omega
  generalize bitsLen n = k at *
  go_enter Tryz.func110, Tryz.ntmps110
  go_wp2_with (go_at_call 88; refine (C.out _).mono ?_; rintro e w' ⟨rfl, rfl⟩)
  go_ret
  exact ⟨rfl, rfl⟩
theorem setCell_twice (w : World) (blk off : Nat) (v v' : Value) : (w.setCell ⟨blk, off, none⟩ v).setCell ⟨blk, off, none⟩ v' = w.setCell ⟨blk, off, none⟩ v' := by
  rw [setCell_eq, setCell_eq, mapBlock_mapBlock, setCell_eq]
  congr 1
  funext c
  simp
set_option maxHeartbeats 2000000 in
set_option maxRecDepth 1000000 in
theorem xor_any (rb ro X : Nat) (hX : X < 18446744073709551616) (w : World) (hc : w.cell? ⟨rb, ro, none⟩ = some (.int .u64 X)) (hf : w.frozen? ⟨rb, ro, none⟩ = false) :
    Calls Tryz.prog 111 #[.pointer (some ⟨rb, ro, none⟩)] w fun e w' => e = .returned (.int .u64 (xorNextN X : Nat)) ∧ w' = (w.setCell ⟨rb, ro, none⟩ (.int .u64 (xorNextN X : Nat))).drewN 3 := by
  have mx := mixed
  obtain ⟨A, hA⟩ : ∃ A : Nat, A = X ^^^ (X * 8192 % 18446744073709551616) := ⟨_, rfl⟩
  obtain ⟨B, hB⟩ : ∃ B : Nat, B = A ^^^ (A / 128) := ⟨_, rfl⟩
  obtain ⟨C, hC⟩ : ∃ C : Nat, C = B ^^^ (B * 131072 % 18446744073709551616) := ⟨_, rfl⟩
  have lA : A < 18446744073709551616 := by rw [hA]; exact Nat.xor_lt_two_pow (n := 64) (by omega) (by omega)
  have lB : B < 18446744073709551616 := by rw [hB]; exact Nat.xor_lt_two_pow (n := 64) (by omega) (by omega)
  have e1 : bits .xor .u64 (X : Int) (IntKind.u64.wrap ((X : Int) * 8192)) = (A : Int) := by
    rw [IntKind.wrap_u64, show ((X : Int) * 8192 % 18446744073709551616) = ((X * 8192 % 18446744073709551616 : Nat) : Int) by omega, bits_xor_u64_nat _ _ hX (by omega), hA]
  have e2 : bits .xor .u64 (A : Int) ((A : Int) / 128) = (B : Int) := by
    rw [show ((A : Int) / 128) = ((A / 128 : Nat) : Int) by omega, bits_xor_u64_nat _ _ lA (by omega), hB]
  have e3 : bits .xor .u64 (B : Int) (IntKind.u64.wrap ((B : Int) * 131072)) = (C : Int) := by
    rw [IntKind.wrap_u64, show ((B : Int) * 131072 % 18446744073709551616) = ((B * 131072 % 18446744073709551616 : Nat) : Int) by omega, bits_xor_u64_nat _ _ lB (by omega), hC]
  have hv : xorNextN X = C := by unfold xorNextN; simp only []; rw [← hA, ← hB, ← hC]
  rw [hv]
  clear hA hB hC hv
  have hss : ∀ v v', (w.setCell ⟨rb, ro, none⟩ v).setCell ⟨rb, ro, none⟩ v' = w.setCell ⟨rb, ro, none⟩ v' := setCell_twice w rb ro
  go_enter Tryz.func111, Tryz.ntmps111
  go_wp2
  go_region_o
  all_goals go_wp2
  all_goals go_region_o
  all_goals go_wp2
  all_goals go_region_o
  all_goals go_wp2
  go_ret
  exact ⟨rfl, rfl⟩
end Go.Proofs.YtinpglfclbnhlaaGreatDoor

namespace Go.Proofs.YtinpglfclbnhlaaGreatDoor
open Go.RowKit Go.Sort Go.Shelf
set_option linter.unusedVariables false
set_option linter.unusedSimpArgs false
theorem brk_eq (d : Array R) (a l : Nat) (h : 8 ≤ l) : Sort.breakPatterns d a (a + l) = (([0, 1, 2] : List Nat).foldl (fun st k => breakStep a l (1 <<< bitsLen l) st (a + l / 4 * 2 - 1 + k)) (UInt64.ofNat l, d)).2 := by
  unfold Sort.breakPatterns
  simp only [Nat.add_sub_cancel_left]
  rw [if_pos h]
  rfl
theorem drop_step {β : Type} (F : β → Nat → β) (st : β) (t : Nat) (h : t < 3) : (([0, 1, 2] : List Nat).drop t).foldl F st = (([0, 1, 2] : List Nat).drop (t + 1)).foldl F (F st t) := by
  have : t = 0 ∨ t = 1 ∨ t = 2 := by omega
  rcases this with rfl | rfl | rfl <;> rfl
theorem brk_step (a l M i : Nat) (r : UInt64) (d : Array R) (q : Nat) (h : (if l ≤ (xorNext r).toNat &&& (M - 1) then ((xorNext r).toNat &&& (M - 1)) - l else (xorNext r).toNat &&& (M - 1)) = q) :
    breakStep a l M (r, d) i = (xorNext r, swp d i (a + q)) := by
  unfold breakStep
  simp only [ge_iff_le]
  rw [h]
set_option maxHeartbeats 4000000 in
set_option maxRecDepth 1000000 in
theorem brk_any {w0 : World} {b off n : Nat} (R0 : RowR w0 b off n) (cap : Nat) (d : Array R) (a l : Nat) (w : World) (hW : SW w0 b off d w) (hs : d.size = n) (hl : a + l ≤ n) (h12 : 12 < l) (hsm : n ≤ 4294967295) :
    Calls Tryz.prog 99 #[.slice (some ⟨b, off, none⟩) n cap, .int .i64 a, .int .i64 ((a : Int) + l), fvR] w fun e w' =>
      e = .returned (.tuple #[]) ∧ SW w0 b off (Sort.breakPatterns d a (a + l)) w' := by
  have mx := mixed
  have hn := R0.hn
  rw [brk_eq d a l (by omega)]
  obtain ⟨M, hM⟩ : ∃ M : Nat, M = 1 <<< bitsLen l := ⟨_, rfl⟩
  have hM1 : 1 ≤ M := by rw [hM, Nat.one_shiftLeft]; exact Nat.two_pow_pos _
  have hM2 : M ≤ 2 * l := by rw [hM, Nat.one_shiftLeft]; exact two_pow_bitsLen_le (by omega)
  have NP := Lib.hid (fun w => pow_any l w (by omega))
  rw [← hM] at NP
  rw [← hM]
  clear hM
  have hb := R0.hb
  have hle0 : w0.heap.size ≤ w.heap.size := SWK.le hW
  have bne : w.heap.size ≠ b := by omega
  have bne' : ¬ b = w.heap.size := by omega
  obtain ⟨I0, hI0⟩ : ∃ I0, I0 = a + l / 4 * 2 - 1 := ⟨_, rfl⟩
  have cI0 : (I0 : Int) = (a : Int) + (l : Int) / 4 * 2 - 1 := by omega
  have SA := Lib.hid (SWK.alloc hW (.cells #[.int .u64 l] 114))
  have RW := Lib.hid R0
  clear R0 hW
  rw [← hI0]
  have ws : IntKind.i64.wrap ((a : Int) + l - a) = l := by rw [IntKind.wrap_i64]; omega
  have wu : IntKind.u64.wrap (l : Int) = l := by rw [IntKind.wrap_u64]; omega
  have g8 : decide ((8 : Int) ≤ l) = true := decide_eq_true (by omega)
  have g8' : (8 : Int) ≤ l := by omega
  have wI : IntKind.i64.wrap ((a : Int) + (l : Int) / 4 * 2 - 1) = I0 := by rw [IntKind.wrap_i64]; omega
  have wI2 : IntKind.i64.wrap ((a : Int) + (l : Int) / 4 * 2) = (a : Int) + (l : Int) / 4 * 2 := by rw [IntKind.wrap_i64]; omega
  have wI3 : IntKind.i64.wrap ((a : Int) + (l : Int) / 4 * 2 + 1) = (I0 : Int) + 2 := by rw [IntKind.wrap_i64]; omega
  have i1 : a ≤ I0 := by omega
  have i2 : I0 + 2 < a + l := by omega
  clear hI0 cI0
  unfold fvR
  go_enter Tryz.func99, Tryz.ntmps99
  go_wp2_with (go_at_call 110; refine (NP.out _).mono ?_; rintro e w' ⟨rfl, rfl⟩)
  go_loopw [11] (fun v wr => ∃ (t : Nat) (r : UInt64) (dk : Array R), v = .int .i64 ((I0 : Int) + t) ∧ t ≤ 3 ∧ dk.size = n ∧ Hid (SW w0 b off dk wr) ∧
      wr.cell? ⟨w.heap.size, 0, none⟩ = some (.int .u64 (r.toNat : Int)) ∧ wr.frozen? ⟨w.heap.size, 0, none⟩ = false ∧
      Hid (((([0, 1, 2] : List Nat).drop t).foldl (fun st k => breakStep a l M st (I0 + k)) (r, dk)).2 = (([0, 1, 2] : List Nat).foldl (fun st k => breakStep a l M st (I0 + k)) (UInt64.ofNat l, d)).2)) (fun v _ => (I0 + 3) - (intOf v).toNat)
  case atStart =>
    refine ⟨0, UInt64.ofNat l, d, by first | go_num | (congr 1; omega), by omega, hs, SA, ?_, by simp, Lib.hid rfl⟩
    rw [show (UInt64.ofNat l).toNat = l from by simp; omega]
    simp
  case round =>
    obtain ⟨t, r, dk, rfl, ht, hsk, HS, cR, fR, HG⟩ := hrel
    clear SA
    by_cases ht3 : t < 3
    · have gt : decide ((I0 : Int) + (t : Int) ≤ (I0 : Int) + 2) = true := decide_eq_true (by omega)
      have gt' : (I0 : Int) + (t : Int) ≤ (I0 : Int) + 2 := by omega
      have gt2 : (t : Int) ≤ 2 := by omega
      have gt3 : decide ((t : Int) ≤ 2) = true := decide_eq_true gt2
      have wn : IntKind.i64.wrap ((I0 : Int) + (t : Int) + 1) = (I0 : Int) + (t : Int) + 1 := by rw [IntKind.wrap_i64]; omega
      obtain ⟨R', hR'⟩ : ∃ R' : Nat, R' = xorNextN r.toNat := ⟨_, rfl⟩
      have lR : r.toNat < 18446744073709551616 := r.toNat_lt
      have lR' : R' < 18446744073709551616 := by rw [hR']; exact xorNextN_lt _ lR
      have HN : Hid ((xorNext r).toNat = R') := Lib.hid (by rw [hR', xorNext_toNat])
      obtain ⟨O, hO⟩ : ∃ O : Nat, O = R' &&& (M - 1) := ⟨_, rfl⟩
      have lO : O ≤ M - 1 := by rw [hO]; exact Nat.and_le_right
      have eAnd : bits .and .u64 (R' : Int) ((M : Int) - 1) = (O : Int) := by
        rw [show ((M : Int) - 1) = ((M - 1 : Nat) : Int) by omega, bits_and_u64_nat _ _ lR' (by omega), hO]
      have NX := Lib.hid (xor_any w.heap.size 0 r.toNat lR wr cR fR)
      rw [← hR'] at NX
      have HB : Hid (∀ q, (if l ≤ O then O - l else O) = q → breakStep a l M (r, dk) (I0 + t) = (xorNext r, swp dk (I0 + t) (a + q))) := Lib.hid (fun q h => brk_step a l M (I0 + t) r dk q (by rw [HN.out, ← hO]; exact h))
      have S2 : Hid (SW w0 b off dk ((wr.setCell ⟨w.heap.size, 0, none⟩ (.int .u64 (R' : Int))).drewN 3)) := Lib.hid (SWK.drewN (SWK.setCell_new HS.out w.heap.size 0 (.int .u64 (R' : Int)) hle0) 3)
      have cR2 : ((wr.setCell ⟨w.heap.size, 0, none⟩ (.int .u64 (R' : Int))).drewN 3).cell? ⟨w.heap.size, 0, none⟩ = some (.int .u64 (R' : Int)) := by
        rw [World.cell?_drewN]; exact World.cell?_setCell_same _ _ _ cR
      have fR2 : ((wr.setCell ⟨w.heap.size, 0, none⟩ (.int .u64 (R' : Int))).drewN 3).frozen? ⟨w.heap.size, 0, none⟩ = false := by
        rw [World.frozen?_drewN]; simpa using fR
      generalize (wr.setCell ⟨w.heap.size, 0, none⟩ (.int .u64 (R' : Int))).drewN 3 = w2 at NX S2 cR2 fR2
      clear cR fR HS hO hR'
      have wM : IntKind.u64.wrap ((M : Int) - 1) = (M : Int) - 1 := by rw [IntKind.wrap_u64]; omega
      have wO : IntKind.i64.wrap (O : Int) = (O : Int) := by rw [IntKind.wrap_i64]; omega
      have ei : ((I0 : Int) + (t : Int)).toNat = I0 + t := by omega
      have zi0 : (0 : Int) ≤ (I0 : Int) + (t : Int) := by omega
      have zi1 : (I0 : Int) + (t : Int) < (n : Int) := by omega
      by_cases hLO : l ≤ O
      · obtain ⟨q, hq⟩ : ∃ q, O = l + q := ⟨O - l, by omega⟩
        have gq : decide ((l : Int) ≤ (O : Int)) = true := decide_eq_true (by omega)
        have gq' : (l : Int) ≤ (O : Int) := by omega
        have wq : IntKind.i64.wrap ((O : Int) - (l : Int)) = (q : Int) := by rw [IntKind.wrap_i64]; omega
        have ql : q < l := by omega
        have HQ := Lib.hid hq
        clear hq
        have wj : IntKind.i64.wrap ((a : Int) + (q : Int)) = (a : Int) + (q : Int) := by rw [IntKind.wrap_i64]; omega
        have ej : ((a : Int) + (q : Int)).toNat = a + q := by omega
        have zj0 : (0 : Int) ≤ (a : Int) + (q : Int) := by omega
        have zj1 : (a : Int) + (q : Int) < (n : Int) := by omega
        have HB2 : Hid (breakStep a l M (r, dk) (I0 + t) = (xorNext r, swp dk (I0 + t) (a + q))) := Lib.hid (HB.out q (by first | (have := HQ.out; rw [if_pos (by omega)]; omega) | (rw [if_neg (by omega)])))
        obtain ⟨x1, x2, y1, y2, ⟨fa, fb, fc, fd⟩, ⟨ga, gb, gc, gd⟩, ⟨ka, kb⟩, HSx⟩ := RW.out.swap2 S2.out hsk (I0 + t) (a + q) (by omega) (by omega)
        go_wp2_with (go_at_call 111; refine (NX.out).mono ?_; rintro e w' ⟨rfl, hw'⟩; obtain rfl : w2 = w' := hw'.symm)
        go_region
        all_goals go_wp2
        refine ⟨⟨t + 1, xorNext r, _, by go_num, by omega, by rw [size_swp]; exact hsk, HSx, ?_, ?_, Lib.hid ?_⟩, ?_⟩
        · rw [World.cell?_drew]
          rw [World.cell?_setCell_other _ _ _ _ (by intro h; simp only [Addr.mk.injEq] at h; omega), World.cell?_setCell_other _ _ _ _ (by intro h; simp only [Addr.mk.injEq] at h; omega), World.cell?_setCell_other _ _ _ _ (by intro h; simp only [Addr.mk.injEq] at h; omega), World.cell?_setCell_other _ _ _ _ (by intro h; simp only [Addr.mk.injEq] at h; omega)]
          rw [cR2, ← HN.out]
        · simpa using fR2
        · rw [← HG.out, drop_step _ _ t ht3, HB2.out]
        · simp only [intOf]; omega
      · have gq : decide ((l : Int) ≤ (O : Int)) = false := decide_eq_false (by omega)
        have gq' : ¬ (l : Int) ≤ (O : Int) := by omega
        have wj : IntKind.i64.wrap ((a : Int) + (O : Int)) = (a : Int) + (O : Int) := by rw [IntKind.wrap_i64]; omega
        have ej : ((a : Int) + (O : Int)).toNat = a + O := by omega
        have zj0 : (0 : Int) ≤ (a : Int) + (O : Int) := by omega
        have zj1 : (a : Int) + (O : Int) < (n : Int) := by omega
        have HB2 : Hid (breakStep a l M (r, dk) (I0 + t) = (xorNext r, swp dk (I0 + t) (a + O))) := Lib.hid (HB.out O (by first | (have := HQ.out; rw [if_pos (by omega)]; omega) | (rw [if_neg (by omega)])))
        obtain ⟨x1, x2, y1, y2, ⟨fa, fb, fc, fd⟩, ⟨ga, gb, gc, gd⟩, ⟨ka, kb⟩, HSx⟩ := RW.out.swap2 S2.out hsk (I0 + t) (a + O) (by omega) (by omega)
        go_wp2_with (go_at_call 111; refine (NX.out).mono ?_; rintro e w' ⟨rfl, hw'⟩; obtain rfl : w2 = w' := hw'.symm)
        go_region
        all_goals go_wp2
        refine ⟨⟨t + 1, xorNext r, _, by go_num, by omega, by rw [size_swp]; exact hsk, HSx, ?_, ?_, Lib.hid ?_⟩, ?_⟩
        · rw [World.cell?_drew]
          rw [World.cell?_setCell_other _ _ _ _ (by intro h; simp only [Addr.mk.injEq] at h; omega), World.cell?_setCell_other _ _ _ _ (by intro h; simp only [Addr.mk.injEq] at h; omega), World.cell?_setCell_other _ _ _ _ (by intro h; simp only [Addr.mk.injEq] at h; omega), World.cell?_setCell_other _ _ _ _ (by intro h; simp only [Addr.mk.injEq] at h; omega)]
          rw [cR2, ← HN.out]
        · simpa using fR2
        · rw [← HG.out, drop_step _ _ t ht3, HB2.out]
        · simp only [intOf]; omega
    · obtain rfl : t = 3 := by omega
      have gt : decide ((I0 : Int) + ((3 : Nat) : Int) ≤ (I0 : Int) + 2) = false := decide_eq_false (by omega)
      have gt' : ¬ (I0 : Int) + ((3 : Nat) : Int) ≤ (I0 : Int) + 2 := by omega
      go_wp2
      go_end0
      refine ⟨rfl, ?_⟩
      have e := HG.out
      simp only [List.drop, List.foldl, Nat.add_zero] at e
      rw [← e]
      exact HS.out
end Go.Proofs.YtinpglfclbnhlaaGreatDoor

namespace Go.Proofs.YtinpglfclbnhlaaGreatDoor
open Go.RowKit Go.Sort Go.Shelf
set_option linter.unusedVariables false
set_option linter.unusedSimpArgs false
theorem swoR : SWO ltR := by
  refine ⟨fun x => by simp [ltR], fun x y z h g => ?_, fun x y z h g => ?_⟩ <;> simp [ltR] at * <;> omega
theorem eighth2 {x y p q : Nat} (h1 : q ≤ p) (h2 : y ≤ x) : decide (((x : Int) - (y : Int)) / 8 ≤ (p : Int) - (q : Int)) = decide (p - q ≥ (x - y) / 8) := by
  have : (((x : Int) - (y : Int)) / 8 ≤ (p : Int) - (q : Int)) ↔ (p - q ≥ (x - y) / 8) := by omega
  simp only [this]
section
variable {w0 : World} {b off n : Nat} (R0 : RowR w0 b off n) (cap : Nat)
include R0
theorem heap_ab (d : Array R) (a e : Nat) (w : World) (hW : SW w0 b off d w) (hs : d.size = n) (he : e ≤ n) (h12 : ¬ e - a ≤ 12) :
    Calls Tryz.prog 98 #[.slice (some ⟨b, off, none⟩) n cap, .int .i64 a, .int .i64 e, fvR] w fun ex w' => ex = .returned (.tuple #[]) ∧ SW w0 b off (Sort.heapSort ltR d a e) w' := by
  have h := heap_any R0 cap d a (e - a) w hW hs (by omega) (by omega)
  rw [show a + (e - a) = e by omega, show (a : Int) + ((e - a : Nat) : Int) = (e : Int) by omega] at h
  exact h
theorem brk_ab (d : Array R) (a e : Nat) (w : World) (hW : SW w0 b off d w) (hs : d.size = n) (he : e ≤ n) (h12 : ¬ e - a ≤ 12) (hsm : n ≤ 4294967295) :
    Calls Tryz.prog 99 #[.slice (some ⟨b, off, none⟩) n cap, .int .i64 a, .int .i64 e, fvR] w fun ex w' => ex = .returned (.tuple #[]) ∧ SW w0 b off (Sort.breakPatterns d a e) w' := by
  have h := brk_any R0 cap d a (e - a) w hW hs (by omega) (by omega) hsm
  rw [show a + (e - a) = e by omega, show (a : Int) + ((e - a : Nat) : Int) = (e : Int) by omega] at h
  exact h
theorem pivot_ab (d : Array R) (a e : Nat) (w : World) (hW : SW w0 b off d w) (hs : d.size = n) (he : e ≤ n) (h12 : ¬ e - a ≤ 12) :
    Calls Tryz.prog 100 #[.slice (some ⟨b, off, none⟩) n cap, .int .i64 a, .int .i64 e, fvR] w fun ex w' =>
      ex = .returned (.tuple #[.int .i64 (Sort.choosePivot ltR d a e).1, .int .i64 (hintI (Sort.choosePivot ltR d a e).2)]) ∧ SW w0 b off d w' := by
  have h := pivot_any R0 cap d a (e - a) w hW hs (by omega) (by omega)
  rw [show a + (e - a) = e by omega, show (a : Int) + ((e - a : Nat) : Int) = (e : Int) by omega] at h
  exact h
theorem pins_ab (d : Array R) (a e : Nat) (w : World) (hW : SW w0 b off d w) (hs : d.size = n) (he : e ≤ n) (h12 : ¬ e - a ≤ 12) :
    Calls Tryz.prog 102 #[.slice (some ⟨b, off, none⟩) n cap, .int .i64 a, .int .i64 e, fvR] w fun ex w' => ex = .returned (.bool (Sort.partialInsertionSort ltR d a e).2) ∧ SW w0 b off (Sort.partialInsertionSort ltR d a e).1 w' := by
  have h := pins_any R0 cap d a (e - 1) w hW hs (by omega) (by omega)
  rw [show e - 1 + 1 = e by omega, show ((e - 1 : Nat) : Int) + 1 = (e : Int) by omega] at h
  exact h
theorem part_ab (d : Array R) (a e pv : Nat) (w : World) (hW : SW w0 b off d w) (hs : d.size = n) (he : e ≤ n) (h12 : ¬ e - a ≤ 12) (hp1 : a ≤ pv) (hp2 : pv < e) (mid : Nat) (ap : Bool) (d4 : Array R) (hx : Sort.partition ltR d a e pv = (mid, ap, d4)) :
    Calls Tryz.prog 104 #[.slice (some ⟨b, off, none⟩) n cap, .int .i64 a, .int .i64 e, .int .i64 pv, fvR] w fun ex w' => ex = .returned (.tuple #[.int .i64 mid, .bool ap]) ∧ SW w0 b off d4 w' := by
  have h := part_any R0 cap d a (e - 1) pv w hW hs (by omega) (by omega) hp1 (by omega)
  rw [show e - 1 + 1 = e by omega, show ((e - 1 : Nat) : Int) + 1 = (e : Int) by omega, hx] at h
  exact h
theorem partEq_ab (d : Array R) (a e pv : Nat) (w : World) (hW : SW w0 b off d w) (hs : d.size = n) (he : e ≤ n) (h12 : ¬ e - a ≤ 12) (hp1 : a ≤ pv) (hp2 : pv < e) (mid : Nat) (d4 : Array R) (hx : Sort.partitionEqual ltR d a e pv = (mid, d4)) :
    Calls Tryz.prog 103 #[.slice (some ⟨b, off, none⟩) n cap, .int .i64 a, .int .i64 e, .int .i64 pv, fvR] w fun ex w' => ex = .returned (.int .i64 mid) ∧ SW w0 b off d4 w' := by
  have h := partEq_any R0 cap d a (e - 1) pv w hW hs (by omega) (by omega) hp1 (by omega)
  rw [show e - 1 + 1 = e by omega, show ((e - 1 : Nat) : Int) + 1 = (e : Int) by omega, hx] at h
  exact h
set_option maxHeartbeats 8000000 in
set_option maxRecDepth 1000000 in
theorem pdq_any (hsm : n ≤ 4294967295) :
    ∀ (N a e limit : Nat) (d : Array R) (w : World), e - a < N → d.size = n → SW w0 b off d w → a ≤ e → e ≤ n → limit ≤ 4611686018427387903 → Sort.Below ltR a e d →
    Calls Tryz.prog 87 #[.slice (some ⟨b, off, none⟩) n cap, .int .i64 a, .int .i64 e, .int .i64 limit, fvR] w fun ex w' =>
      ex = .returned (.tuple #[]) ∧ SW w0 b off (Sort.pdq ltR d a e limit true true) w' := by
  have mx := mixed
  have hn := R0.hn
  have RW := Lib.hid R0
  clear R0
  intro N
  induction N with
  | zero => intro _ _ _ _ _ h; exact absurd h (Nat.not_lt_zero _)
  | succ N ih =>
    intro a e limit d w hN hs hW hae hen hlimit hBel
    have IH := Lib.hid ih
    have HW := Lib.hid hW
    have HB := Lib.hid hBel
    clear ih hW hBel
    unfold fvR
    go_enter Tryz.func87, Tryz.ntmps87
    go_wp2
    go_loopw [1, 2, 3, 10, 11] (fun s1 s2 s3 s10 s11 wr => ∃ (a' e' lim : Nat) (wb wp : Bool) (dk : Array R), s1 = .int .i64 a' ∧ s2 = .int .i64 e' ∧ s3 = .int .i64 lim ∧ s10 = .bool wb ∧ s11 = .bool wp ∧
      a' ≤ e' ∧ e' ≤ n ∧ e' - a' ≤ e - a ∧ lim ≤ 4611686018427387903 ∧ dk.size = n ∧ Hid (Sort.Below ltR a' e' dk) ∧ Hid (SW w0 b off dk wr) ∧ Hid (Sort.pdq ltR dk a' e' lim wb wp = Sort.pdq ltR d a e limit true true)) (fun s1 s2 _ _ _ _ => (intOf s2 - intOf s1).toNat)
    case atStart => exact ⟨a, e, limit, true, true, d, rfl, rfl, rfl, rfl, rfl, hae, hen, Nat.le_refl _, hlimit, hs, HB, HW, Lib.hid rfl⟩
    case round =>
      clear HB HW
      obtain ⟨a', e', lim, wb, wp, dk, rfl, rfl, rfl, rfl, rfl, hae', hen', hke, hlim, hsk, HB, HS, HE⟩ := hrel
      have wl : IntKind.i64.wrap ((e' : Int) - (a' : Int)) = (e' : Int) - (a' : Int) := by rw [IntKind.wrap_i64]; omega
      by_cases h12 : e' - a' ≤ 12
      · have g12 : (e' : Int) - (a' : Int) ≤ 12 := by omega
        have g12' : decide ((e' : Int) - (a' : Int) ≤ 12) = true := decide_eq_true g12
        have C := Lib.hid (ins_any RW.out cap dk a' e' wr HS.out hsk hae' hen')
        unfold fvR at C
        have FIN := Lib.hid (show Sort.insertionSort ltR dk a' e' = Sort.pdq ltR d a e limit true true by rw [← HE.out, pdq_small h12])
        go_wp2_with (go_at_call 97; refine (C.out).mono ?_; rintro e w1 ⟨rfl, hw1⟩)
        (try simp only [Exit.inBlock, Exit.then]); refine bodyPost_ret (results_none rfl _ _ _) rfl ?_
        exact ⟨rfl, by rw [← FIN.out]; exact hw1⟩
      · have g12 : ¬ (e' : Int) - (a' : Int) ≤ 12 := by omega
        have g12' : decide ((e' : Int) - (a' : Int) ≤ 12) = false := decide_eq_false g12
        have H12 := Lib.hid h12
        by_cases hl0 : lim = 0
        · have C := Lib.hid (heap_ab RW.out cap dk a' e' wr HS.out hsk hen' h12)
          unfold fvR at C
          have FIN := Lib.hid (show Sort.heapSort ltR dk a' e' = Sort.pdq ltR d a e limit true true by rw [← HE.out, pdq_heap h12 hl0])
          have l0 : ((lim : Int) == 0) = true := by simp; omega
          have l0' : decide ((lim : Int) = 0) = true := decide_eq_true (by omega)
          clear hl0
          go_wp2_with (go_at_call 98; refine (C.out).mono ?_; rintro e w1 ⟨rfl, hw1⟩)
          (try simp only [Exit.inBlock, Exit.then]); refine bodyPost_ret (results_none rfl _ _ _) rfl ?_
          exact ⟨rfl, by rw [← FIN.out]; exact hw1⟩
        · have l0 : ((lim : Int) == 0) = false := by simp; omega
          have l0' : decide ((lim : Int) = 0) = false := decide_eq_false (by omega)
          have l0'' : ¬ (lim : Int) = 0 := by omega
          have hl1 : 1 ≤ lim := by omega
          have HL0 := Lib.hid hl0
          obtain ⟨Q, hQ⟩ : ∃ Q, Q = rd ltR dk a' e' lim wb wp := ⟨_, rfl⟩
          have F := rd_facts (lt := ltR) (limit := lim) (wb := wb) (wp := wp) swoR partialInsertionSort_holds reverseRange_holds (show a' < e' by omega) (show e' ≤ dk.size by omega) HB.out
          rw [← hQ] at F
          obtain ⟨s1, B1, ⟨c1, c2⟩, s2, B2, ⟨v1, v2⟩, s3, B3⟩ := F
          have QL := rd_lim_le (lt := ltR) (d := dk) (a := a') (b := e') (limit := lim) (wb := wb) (wp := wp)
          rw [← hQ] at QL
          have HQ := Lib.hid hQ
          have HB3 := Lib.hid B3
          clear hQ B1 B2 B3 hl0 h12
          have HS1 := Lib.hid (s1.trans hsk)
          have HS2 := Lib.hid (s2.trans hsk)
          have HS3 := Lib.hid (s3.trans hsk)
          clear s1 s2 s3
          go_upto_if 39 with fail
          go_cut [3] from 21 (fun s3 wc => s3 = .int .i64 Q.lim ∧ Hid (SW w0 b off Q.d1 wc))
          case first =>
            cases wb
            · have C := Lib.hid (brk_ab RW.out cap dk a' e' wr HS.out hsk hen' H12.out hsm)
              unfold fvR at C
              have E := Lib.hid (show Sort.breakPatterns dk a' e' = Q.d1 ∧ lim - 1 = Q.lim by rw [HQ.out]; exact ⟨rfl, rfl⟩)
              have wlm : IntKind.i64.wrap ((lim : Int) - 1) = (lim : Int) - 1 := by rw [IntKind.wrap_i64]; omega
              go_wp2_with (go_at_call 99; refine (C.out).mono ?_; rintro e w1 ⟨rfl, hw1⟩)
              go_meet
              case rel =>
                refine ⟨?_, Lib.hid (by rw [← E.out.1]; exact hw1)⟩
                have := E.out.2
                congr 1
                omega
            · have E := Lib.hid (show dk = Q.d1 ∧ lim = Q.lim by rw [HQ.out]; exact ⟨rfl, rfl⟩)
              go_wp2_with fail
              go_meet
              case rel => exact ⟨by rw [← E.out.2], Lib.hid (by rw [← E.out.1]; exact HS.out)⟩
          case rest =>
            obtain ⟨rfl, HS4⟩ := hcut
            clear HS
            have C := Lib.hid (pivot_ab RW.out cap Q.d1 a' e' wc HS4.out HS1.out hen' H12.out)
            rw [show Sort.choosePivot ltR Q.d1 a' e' = Q.c by rw [HQ.out]; rfl] at C
            unfold fvR at C
            go_upto_if 56 with (go_at_call 100; refine (C.out).mono ?_; rintro e w2 ⟨rfl, hAt2⟩)
            have HS5 := Lib.hid hAt2
            clear hAt2 HS4 C
            go_cut [13, 14] from 21 (fun s13 s14 wc => s13 = .int .i64 Q.pivot ∧ s14 = .int .i64 (hintI Q.hint) ∧ Hid (SW w0 b off Q.d2 wc))
            case first =>
              by_cases hh : Q.c.2 = .decreasing
              · have E : Q.d2 = Sort.reverseRange Q.d1 a' e' ∧ Q.pivot = (e' - 1) - (Q.c.1 - a') ∧ Q.hint = .increasing := by
                  have := rd_dec (lt := ltR) (d := dk) (a := a') (b := e') (limit := lim) (wb := wb) (wp := wp) (by rw [← HQ.out]; exact hh)
                  rw [← HQ.out] at this; exact this
                obtain ⟨e2, epv, eht⟩ := E
                have hcode : hintI Q.c.2 = 2 := by rw [hh]; rfl
                have w1 : IntKind.i64.wrap ((e' : Int) - 1) = (e' : Int) - 1 := by rw [IntKind.wrap_i64]; omega
                have w2' : IntKind.i64.wrap ((Q.c.1 : Int) - (a' : Int)) = (Q.c.1 : Int) - (a' : Int) := by rw [IntKind.wrap_i64]; omega
                have w3 : IntKind.i64.wrap ((e' : Int) - 1 - ((Q.c.1 : Int) - (a' : Int))) = (Q.pivot : Int) := by rw [IntKind.wrap_i64]; omega
                have C := Lib.hid (rev_any RW.out cap fvR Q.d1 a' e' w2 HS5.out HS1.out (by omega) hen')
                rw [← e2] at C
                unfold fvR at C
                have EH := Lib.hid eht
                clear e2 epv eht hh
                go_wp2_with (go_at_call 101; refine (C.out).mono ?_; rintro e w3 ⟨rfl, hw3⟩)
                go_meet
                case rel => exact ⟨rfl, by rw [EH.out]; rfl, Lib.hid hw3⟩
              · have E : Q.d2 = Q.d1 ∧ Q.pivot = Q.c.1 ∧ Q.hint = Q.c.2 := by
                  have := rd_not (lt := ltR) (d := dk) (a := a') (b := e') (limit := lim) (wb := wb) (wp := wp) (by rw [← HQ.out]; exact hh)
                  rw [← HQ.out] at this; exact this
                have hcode : ¬ hintI Q.c.2 = 2 := fun h => hh (by revert h; cases Q.c.2 <;> simp [hintI])
                have hcode' : (hintI Q.c.2 == 2) = false := by simpa using hcode
                have HE3 := Lib.hid E
                clear E hh
                go_wp2_with fail
                go_meet
                case rel => exact ⟨by rw [HE3.out.2.1], by rw [HE3.out.2.2], Lib.hid (by rw [HE3.out.1]; exact HS5.out)⟩
            case rest =>
              obtain ⟨rfl, rfl, HS6⟩ := hcut
              clear HS5
              go_upto_region 15 with fail
              go_cut [14, 75] from 21 (fun s14 s75 wx => s14 = .int .i64 (hintI Q.hint) ∧ s75 = .bool (wb && wp && decide (Q.hint = .increasing)) ∧ Hid (SW w0 b off Q.d2 wx))
              case first =>
                cases wb <;> cases wp <;> cases hh3 : Q.hint <;>
                  (have hcode3 := congrArg hintI hh3
                   simp only [hintI] at hcode3
                   go_wp2_with fail
                   go_meet
                   exact ⟨by simp [hh3, hintI], by simp [hh3, hintI], HS6⟩)
              case rest =>
                obtain ⟨rfl, rfl, HS7⟩ := hcut
                clear HS6
                go_upto_if 75 with fail
                go_cut [] from 21 (fun wx => Hid (Q.pi.2 = false) ∧ Hid (SW w0 b off Q.pi.1 wx))
                case first =>
                  cases h68 : (wb && wp && decide (Q.hint = .increasing))
                  · have epi : Q.pi = (Q.d2, false) := by
                      have := rd_pi_no (lt := ltR) (d := dk) (a := a') (b := e') (limit := lim) (wb := wb) (wp := wp) (by rw [← HQ.out]; exact h68)
                      rw [← HQ.out] at this; exact this
                    have EP := Lib.hid epi
                    clear epi
                    go_wp2_with fail
                    go_meet
                    case rel => exact ⟨Lib.hid (by rw [EP.out]), Lib.hid (by rw [EP.out]; exact HS7.out)⟩
                  · have epi : Q.pi = Sort.partialInsertionSort ltR Q.d2 a' e' := by
                      have := rd_pi_yes (lt := ltR) (d := dk) (a := a') (b := e') (limit := lim) (wb := wb) (wp := wp) (by rw [← HQ.out]; exact h68)
                      rw [← HQ.out] at this; exact this
                    have C := Lib.hid (pins_ab RW.out cap Q.d2 a' e' wc HS7.out HS2.out hen' H12.out)
                    rw [← epi] at C
                    unfold fvR at C
                    clear epi
                    rcases hp2 : Q.pi.2 with _ | _
                    · rw [hp2] at C
                      have HP2 := Lib.hid hp2
                      clear hp2
                      go_wp2_with (go_at_call 102; refine (C.out).mono ?_; rintro e w4 ⟨rfl, hw4⟩)
                      go_meet
                      case rel => exact ⟨HP2, Lib.hid hw4⟩
                    · rw [hp2] at C
                      have FIN := Lib.hid (show Q.pi.1 = Sort.pdq ltR d a e limit true true by rw [← HE.out, pdq_done H12.out HL0.out (by rw [← HQ.out]; exact hp2), ← HQ.out])
                      clear hp2
                      go_wp2_with (go_at_call 102; refine (C.out).mono ?_; rintro e w4 ⟨rfl, hw4⟩)
                      (try simp only [Exit.inBlock, Exit.then]); refine bodyPost_ret (results_none rfl _ _ _) rfl ?_
                      exact ⟨rfl, by rw [← FIN.out]; exact hw4⟩
                case rest =>
                  obtain ⟨HP2, HS8⟩ := hcut
                  clear HS7
                  go_upto_region 17 with fail
                  go_cut [97] from 21 (fun s97 wx => ∃ gb : Bool, s97 = .bool gb ∧ Hid (gb = (decide (a' > 0) && !ltR Q.pi.1[a' - 1]! Q.pi.1[Q.pivot]!)) ∧ Hid (SW w0 b off Q.pi.1 wx))
                  case first =>
                    by_cases ha0 : a' = 0
                    · have z : decide ((0 : Int) < (a' : Int)) = false := decide_eq_false (by omega)
                      have z' : decide ((a' : Int) > 0) = false := z
                      have z2 : ¬ (0 < a') := by omega
                      have z3 : decide (0 < a') = false := decide_eq_false z2
                      have HA := Lib.hid ha0
                      clear ha0
                      go_wp2_with fail
                      go_region
                      all_goals go_wp2
                      go_meet
                      case rel => exact ⟨false, rfl, Lib.hid (by simp [HA.out]), Lib.hid HS8.out.drew⟩
                    · obtain ⟨q, rfl⟩ : ∃ q, a' = q + 1 := ⟨a' - 1, by omega⟩
                      have z : decide ((0 : Int) < (q : Int) + 1) = true := decide_eq_true (by omega)
                      have z1 : (0 : Int) < (q : Int) + 1 := by omega
                      have wq : IntKind.i64.wrap (q : Int) = (q : Int) := by rw [IntKind.wrap_i64]; omega
                      have zq : (q : Int) < (n : Int) := by omega
                      have zp1 : (Q.pivot : Int) < (n : Int) := by omega
                      obtain ⟨x1, x2, y1, y2, cf, hcf, cj1, cj2, cp1, cp2, CX⟩ := RW.out.two HS8.out HS3.out q Q.pivot (by omega) (by omega)
                      have HCF := Lib.hid hcf
                      clear hcf ha0
                      rcases hl : decide (cf < 0) with _ | _
                      · have hcn : ¬ cf < 0 := of_decide_eq_false hl
                        go_wp2_with fail
                        go_quiet_grown (first | (go_at_call 79; exact CX.out _ _))
                        go_wp2
                        go_meet
                        case rel => exact ⟨true, rfl, Lib.hid (by rw [show q + 1 - 1 = q from rfl, ← HCF.out, hl, decide_eq_true (show q + 1 > 0 by omega)]; rfl), Lib.hid (HS8.out.grown _ _)⟩
                      · have hcn : cf < 0 := of_decide_eq_true hl
                        go_wp2_with fail
                        go_quiet_grown (first | (go_at_call 79; exact CX.out _ _))
                        go_wp2
                        go_meet
                        case rel => exact ⟨false, rfl, Lib.hid (by rw [show q + 1 - 1 = q from rfl, ← HCF.out, hl, decide_eq_true (show q + 1 > 0 by omega)]; rfl), Lib.hid (HS8.out.grown _ _)⟩
                  case rest =>
                    obtain ⟨gb, rfl, HG, HS9⟩ := hcut
                    clear HS8
                    cases gb with
                    | true =>
                      obtain ⟨mid, d4, hx⟩ : ∃ mid d4, Sort.partitionEqual ltR Q.pi.1 a' e' Q.pivot = (mid, d4) := ⟨_, _, rfl⟩
                      have hg := HG.out
                      have hg2 : 0 < a' ∧ ltR Q.pi.1[a' - 1]! Q.pi.1[Q.pivot]! = false := by
                        have := hg.symm
                        simp only [Bool.and_eq_true, decide_eq_true_eq, Bool.not_eq_true'] at this
                        exact this
                      obtain ⟨r1, r2, r3, r4, _⟩ := round_eq swoR (partitionEqual_holds ltR) hg2.1 v1 v2 (show e' ≤ Q.pi.1.size by have := HS3.out; omega) HB3.out hg2.2 hx
                      have C := Lib.hid (partEq_ab RW.out cap Q.pi.1 a' e' Q.pivot wc HS9.out HS3.out hen' H12.out v1 v2 mid d4 hx)
                      unfold fvR at C
                      have FIN := Lib.hid (show Sort.pdq ltR d4 mid e' Q.lim wb wp = Sort.pdq ltR d a e limit true true by
                        have h := pdq_eq (lt := ltR) (d := dk) (a := a') (b := e') (limit := lim) (wb := wb) (wp := wp) H12.out HL0.out (by rw [← HQ.out]; exact HP2.out) (by rw [← HQ.out]; exact hg.symm) (by rw [← HQ.out, hx]; exact ⟨r1, r2⟩)
                        rw [← HQ.out, hx] at h
                        rw [← HE.out, h])
                      have R4 := Lib.hid r4
                      have R3 := Lib.hid (r3.trans HS3.out)
                      clear hx hg hg2 r3 r4
                      go_wp2_with (go_at_call 103; refine (C.out).mono ?_; rintro e w7 ⟨rfl, hw7⟩)
                      refine ⟨⟨mid, e', Q.lim, wb, wp, d4, rfl, rfl, rfl, rfl, rfl, r2, hen', by omega, by omega, R3.out, R4, Lib.hid hw7, FIN⟩, ?_⟩
                      simp only [intOf]; omega
                    | false =>
                      obtain ⟨mid, ap, d4, hx⟩ : ∃ mid ap d4, Sort.partition ltR Q.pi.1 a' e' Q.pivot = (mid, ap, d4) := ⟨_, _, _, rfl⟩
                      obtain ⟨r1, r2, r3, r4, r5, r6, r7⟩ := round_part swoR (partition_holds ltR) v1 v2 (show e' ≤ Q.pi.1.size by have := HS3.out; omega) HB3.out hx
                      have C := Lib.hid (part_ab RW.out cap Q.pi.1 a' e' Q.pivot wc HS9.out HS3.out hen' H12.out v1 v2 mid ap d4 hx)
                      unfold fvR at C
                      have PL : Hid (mid - a' < e' - mid → Sort.pdq ltR (Sort.pdq ltR d4 a' mid Q.lim true true) (mid + 1) e' Q.lim (decide (mid - a' ≥ (e' - a') / 8)) ap = Sort.pdq ltR d a e limit true true) := by
                        intro h4
                        rw [← HE.out]
                        have h := pdq_left (lt := ltR) (d := dk) (a := a') (b := e') (limit := lim) (wb := wb) (wp := wp) H12.out HL0.out
                        rw [← HQ.out, hx] at h
                        exact (h HP2.out HG.out.symm ⟨r1, r2⟩ h4).symm
                      have PR : Hid (¬ mid - a' < e' - mid → Sort.pdq ltR (Sort.pdq ltR d4 (mid + 1) e' Q.lim true true) a' mid Q.lim (decide (e' - mid ≥ (e' - a') / 8)) ap = Sort.pdq ltR d a e limit true true) := by
                        intro h4
                        rw [← HE.out]
                        have h := pdq_right (lt := ltR) (d := dk) (a := a') (b := e') (limit := lim) (wb := wb) (wp := wp) H12.out HL0.out
                        rw [← HQ.out, hx] at h
                        exact (h HP2.out HG.out.symm ⟨r1, r2⟩ h4).symm
                      have R3 := Lib.hid (r3.trans HS3.out)
                      have R4 := Lib.hid r4
                      have R5 := Lib.hid r5
                      have R6 := Lib.hid r6
                      have R7 := Lib.hid r7
                      clear hx r3 r4 r5 r6 r7
                      have wll : IntKind.i64.wrap ((mid : Int) - (a' : Int)) = (mid : Int) - (a' : Int) := by rw [IntKind.wrap_i64]; omega
                      have wrl : IntKind.i64.wrap ((e' : Int) - (mid : Int)) = (e' : Int) - (mid : Int) := by rw [IntKind.wrap_i64]; omega
                      have wm1 : IntKind.i64.wrap ((mid : Int) + 1) = (mid : Int) + 1 := by rw [IntKind.wrap_i64]; omega
                      go_upto_if 125 with (go_at_call 104; refine (C.out).mono ?_; rintro e w7 ⟨rfl, hAt7⟩)
                      have HS10 := Lib.hid hAt7
                      clear hAt7 C
                      by_cases h4 : mid - a' < e' - mid
                      · have h4z : (mid : Int) - (a' : Int) < (e' : Int) - (mid : Int) := by omega
                        have h4d : decide ((mid : Int) - (a' : Int) < (e' : Int) - (mid : Int)) = true := decide_eq_true h4z
                        have C := Lib.hid (IH.out a' mid Q.lim d4 w7 (by omega) R3.out HS10.out r1 (by omega) (by omega) R4.out)
                        unfold fvR at C
                        obtain ⟨pL, sL⟩ := pdq_sorts ltR swoR d4 a' mid Q.lim true true r1 (by have := R3.out; omega) R4.out
                        have BL := Lib.hid ((R6.out _ pL sL).1)
                        have SL := Lib.hid (pL.1.trans R3.out)
                        have FIN := Lib.hid (PL.out h4)
                        clear pL sL
                        go_wp2_with (go_at_call 87; refine (C.out).mono ?_; rintro e w8 ⟨rfl, hw8⟩)
                        refine ⟨⟨mid + 1, e', Q.lim, decide (mid - a' ≥ (e' - a') / 8), ap, Sort.pdq ltR d4 a' mid Q.lim true true, by first | go_num | simp, rfl, rfl, ?_, rfl, by omega, hen', by omega, by omega, SL.out, BL, Lib.hid hw8, FIN⟩, ?_⟩
                        · exact congrArg Value.bool (eighth2 r1 hae')
                        · simp only [intOf]; omega
                      · have h4z : ¬ (mid : Int) - (a' : Int) < (e' : Int) - (mid : Int) := by omega
                        have h4d : decide ((mid : Int) - (a' : Int) < (e' : Int) - (mid : Int)) = false := decide_eq_false h4z
                        have C := Lib.hid (IH.out (mid + 1) e' Q.lim d4 w7 (by omega) R3.out HS10.out r2 hen' (by omega) R5.out)
                        rw [show ((mid + 1 : Nat) : Int) = (mid : Int) + 1 by omega] at C
                        unfold fvR at C
                        obtain ⟨pL, sL⟩ := pdq_sorts ltR swoR d4 (mid + 1) e' Q.lim true true r2 (by have := R3.out; omega) R5.out
                        have BL := Lib.hid ((R7.out _ pL sL).1)
                        have SL := Lib.hid (pL.1.trans R3.out)
                        have FIN := Lib.hid (PR.out h4)
                        clear pL sL
                        go_wp2_with (go_at_call 87; refine (C.out).mono ?_; rintro e w8 ⟨rfl, hw8⟩)
                        refine ⟨⟨a', mid, Q.lim, decide (e' - mid ≥ (e' - a') / 8), ap, Sort.pdq ltR d4 (mid + 1) e' Q.lim true true, rfl, rfl, rfl, ?_, rfl, by omega, by omega, by omega, by omega, SL.out, BL, Lib.hid hw8, FIN⟩, ?_⟩
                        · exact congrArg Value.bool (eighth2 (by omega) hae')
                        · simp only [intOf]; omega
end
end Go.Proofs.YtinpglfclbnhlaaGreatDoor

namespace Go.Proofs.YtinpglfclbnhlaaGreatDoor
open Go.RowKit Go.Sort Go.Shelf
set_option linter.unusedVariables false
set_option linter.unusedSimpArgs false
theorem sortFunc_any {b off n : Nat} (cap : Nat) (d : Array R) (w : World) (h0 : HoldsK encR 2 w b off d) (hs : d.size = n) (hb : b < w.heap.size) (hsm : n ≤ 4294967295) :
    Calls Tryz.prog 78 #[.slice (some ⟨b, off, none⟩) n cap, fvR] w fun ex w' => ex = .returned (.tuple #[]) ∧ ∃ d', PermIn 0 n d d' ∧ SortedIn ltR 0 n d' ∧ SW w b off d' w' := by
  have R0 : RowR w b off n := ⟨hb, ⟨d, h0, hs⟩, by omega⟩
  have bl : bitsLen n ≤ 62 := (bitsLen_le_iff n 62).2 (by omega)
  obtain ⟨p1, p2⟩ := pdq_sorts ltR swoR d 0 n (bitsLen n) true true (Nat.zero_le _) (by omega) (Or.inl rfl)
  have CP := Lib.hid (pdq_any R0 cap hsm (n - 0 + 1) 0 n (bitsLen n) d w (by omega) hs (SWK.start h0) (Nat.zero_le _) (Nat.le_refl _) (by omega) (Or.inl rfl))
  have CB := Lib.hid (fun w => len_any n w (by omega) (by omega))
  rw [Int.toNat_natCast] at CB
  have P := Lib.hid (And.intro p1 p2)
  have wr : IntKind.u64.wrap (n : Int) = n := by rw [IntKind.wrap_u64]; omega
  generalize bitsLen n = k at *
  clear R0 p1 p2 h0
  unfold fvR at CP ⊢
  go_enter Tryz.func78, Tryz.ntmps78
  go_wp2_with (first | (go_at_call 88; refine (CB.out _).mono ?_; rintro e w' ⟨rfl, rfl⟩) | (go_at_call 87; refine (CP.out).mono ?_; rintro e w' ⟨rfl, h1⟩))
  go_end0
  exact ⟨rfl, _, P.out.1, P.out.2, h1⟩
theorem below_put {w : World} {b off m : Nat} {d : Array R} {os : Array Obj} {base : Nat} (hb : base ≤ b) (hw : base ≤ w.heap.size) : Go.RowKit.Below base w (sortWorldK encR 2 w b off m d os) := by
  refine ⟨rfl, rfl, rfl, ?_, fun k hk => ?_⟩
  · simp [sortWorldK, grow, putRowK, putRow, mapBlock, Sort.ahead]
  · simp only [sortWorldK, grow, putRowK, putRow, mapBlock, Sort.ahead]
    rw [Array.getElem?_append_left (by simp; omega), Array.getElem?_modify, if_neg (by omega)]
theorem SW.below {w W : World} {b off : Nat} {d : Array R} (h : SW w b off d W) {base : Nat} (hb : base ≤ b) (hw : base ≤ w.heap.size) : Go.RowKit.Below base w W := by
  obtain ⟨m, os, rfl⟩ := h
  exact below_put hb hw
theorem holds_row {w : World} {base g cap : Nat} {T : TypeId} {l : List R} (h : w.ownsRow base T 2 (.slice (some ⟨g, 0, none⟩) l.length cap) l.length (cellsR l)) : HoldsK encR 2 w g 0 l.toArray := by
  intro j hj
  rw [size_flatK] at hj
  simp only [List.size_toArray] at hj
  refine ⟨?_, by rw [Nat.zero_add]; exact h.frozenAt j⟩
  rw [Nat.zero_add, h.cellAt j hj, cells_idx l j hj, get_flatK _ _ _ _ (by simpa using hj)]
  have hj2 : j / 2 < l.length := by omega
  have e : l.toArray[j / 2]! = at_ l (j / 2) := by unfold at_; simp [List.getD, hj2]
  rw [e]
  have : j % 2 = 0 ∨ j % 2 = 1 := by omega
  rcases this with e2 | e2 <;> rw [e2] <;> rfl
theorem runsAt_holds {w : World} {g n cap : Nat} {d : Array R} (h : HoldsK encR 2 w g 0 d) (hs : d.size = n) (h1 : n ≤ cap) (h2 : cap ≤ maxLen) : RunsAt w (.slice (some ⟨g, 0, none⟩) n cap) d.toList := by
  refine .inr ⟨g, 0, cap, by rw [Array.length_toList, hs], by rw [Array.length_toList, hs]; exact h1, h2, fun i hi => ?_⟩
  have hi2 : i < d.size := by simpa using hi
  have e : at_ d.toList i = d[i]! := by unfold at_; simp [List.getD, hi2]
  rw [e]
  have a1 := HoldsK.cells h lenR hi2 0 _ rfl
  have a2 := HoldsK.cells h lenR hi2 1 _ rfl
  simp only [Addr.add_lit] at a1 a2
  exact ⟨by simpa using a1, by simpa using a2⟩
theorem sorted_nf {l : List R} {n : Nat} {d' : Array R} (hn : (wi l).length = n) (p : PermIn 0 n (wi l).toArray d') (s : SortedIn ltR 0 n d') : jn d'.toList = nf l ∧ ∀ r ∈ d'.toList, okR r := by
  have hs : d'.size = n := by rw [p.1]; simpa using hn
  have pm : d'.toList.Perm (wi l) := by
    have := p.2.2
    rw [Array.extract_eq_self_of_le (by omega), Array.extract_eq_self_of_le (by simp [hn])] at this
    simpa using this
  have ok : ∀ r ∈ d'.toList, okR r := fun r hr => wi_ok r (pm.mem_iff.1 hr)
  have rs : rises d'.toList := by
    unfold rises
    rw [List.pairwise_iff_getElem]
    intro i j hi hj hij
    have hi2 : i < d'.size := by simpa using hi
    have hj2 : j < d'.size := by simpa using hj
    have := s i j (Nat.zero_le _) hij (by omega)
    unfold ltR at this
    rw [decide_eq_false_iff_not, getElem!_pos d' i hi2, getElem!_pos d' j hj2] at this
    simp only [Array.getElem_toList]
    omega
  obtain ⟨a, b, _⟩ := jn_ok d'.toList ok rs
  refine ⟨(nf_eq a fun m => ?_).symm, ok⟩
  rw [b m, ← wi_mem l m]
  unfold memR
  exact ⟨fun ⟨r, hr, g⟩ => ⟨r, pm.mem_iff.1 hr, g⟩, fun ⟨r, hr, g⟩ => ⟨r, pm.mem_iff.2 hr, g⟩⟩
set_option maxHeartbeats 1000000 in
theorem make_any (v : Value) (l : List R) (w : World) (hv : RunsAt w v l) (hl : I64R l) (hn : l.length ≤ 1000000) :
    Calls Tryz.prog 62 #[v] w fun e w' => ∃ v' : Value, e = .returned v' ∧ w'.ownsRow w.heap.size 37 2 v' (nf l).length (cellsR (nf l)) ∧ Kp w w' := by
  have C1 := Lib.hid (within_any v l w hv hl hn)
  have len := wi_len l
  have C2 := Lib.hid (fun (u : Value) w1 (h : RunsAt w1 u (wi l)) => sane_any u (wi l) w1 h (ok_i64 wi_ok))
  have hmf : ∀ (fn : Fn) (first cap : Array Value) (w : World), (Instr.makeFunc fn first cap).run Tryz.prog w = .ok (.func fn first cap) w := fun _ _ _ _ => rfl
  rcases Bool.eq_false_or_eq_true (saneB (wi l)) with h | h
  · have E : nf l = wi l := nf_eq (by unfold saneB at h; exact of_decide_eq_true h) (wi_mem l)
    rw [E]
    rw [h] at C2
    clear h E hv
    go_enter Tryz.func62, Tryz.ntmps62
    go_wp2_with fail
    refine (C1.out).mono ?_
    rintro e w1 ⟨v1, rfl, own, k1⟩
    have O := Lib.hid own
    have K1 := Lib.hid k1
    have C3 := Lib.hid (C2.out v1 w1 (runsAt_own own))
    clear own k1 C1 C2
    go_wp2_with fail
    refine (C3.out).mono ?_
    rintro e w2 ⟨rfl, k2⟩
    have K2 := Lib.hid k2
    clear k2
    go_wp2
    go_ret
    exact ⟨_, rfl, own_kp O.out K2.out, K1.out.trans K2.out⟩
  · rw [h] at C2
    have ne : 0 < (wi l).length := by
      rcases Nat.eq_zero_or_pos (wi l).length with e | e
      · have := List.length_eq_zero_iff.1 e
        rw [this] at h
        exact absurd h (by decide)
      · exact e
    clear h hv
    go_enter Tryz.func62, Tryz.ntmps62
    go_wp2_with fail
    refine (C1.out).mono ?_
    rintro e w1 ⟨v1, rfl, own, k1⟩
    have C3 := Lib.hid (C2.out v1 w1 (runsAt_own own))
    obtain ⟨g, cp, rfl, gb, gl⟩ := World.ownsRow.form own ne
    have O := Lib.hid own
    have K1 := Lib.hid k1
    have s1 := k1.size
    clear own k1 C1 C2
    go_wp2_with fail
    refine (C3.out).mono ?_
    rintro e w2 ⟨rfl, k2⟩
    have s2 := k2.size
    have HH : HoldsK encR 2 (w2.alloc (.cells #[] 87)) g 0 (wi l).toArray := holds_row ((own_kp O.out k2).alloc _)
    have C4 := Lib.hid (sortFunc_any (n := (wi l).length) cp (wi l).toArray (w2.alloc (.cells #[] 87)) HH (by simp) (by simp; omega) (by omega))
    unfold fvR at C4
    have K2 := Lib.hid k2
    clear k2 HH
    go_wp2_with (go_at_call 78; refine (C4.out).mono ?_; rintro e w3 ⟨rfl, d', p, s, hW⟩)
    obtain ⟨E, ok⟩ := sorted_nf rfl p s
    have capb : (wi l).length ≤ cp ∧ cp ≤ maxLen := by
      rcases O.out.2 with ⟨e, _⟩ | ⟨g', cap', cur, e, _, _, h1, h2, _⟩
      · cases e
      · cases e; exact ⟨h1, h2⟩
    have hs' : d'.size = (wi l).length := by rw [p.1]; simp
    have HH : HoldsK encR 2 (w2.alloc (.cells #[] 87)) g 0 (wi l).toArray := holds_row ((own_kp O.out K2.out).alloc _)
    have HD : HoldsK encR 2 w3 g 0 d' := SWK.holds hW (by simp; omega) HH (by simp [hs'])
    have C5 := Lib.hid (joined_any (.slice (some ⟨g, 0, none⟩) (wi l).length cp) d'.toList w3 (runsAt_holds HD hs' capb.1 capb.2) ok (by rw [Array.length_toList, hs']; omega))
    rw [E] at C5
    have K3 := Lib.hid (SW.below hW gb (by simp; omega))
    have s3 := SWK.le hW
    simp only [World.size_alloc] at s3
    clear hW HD HH p s E ok capb hs' C4
    go_wp2_with (go_at_call 80; refine (C5.out).mono ?_; rintro e w4 ⟨v4, rfl, own4, k4⟩)
    go_ret
    refine ⟨v4, rfl, own_mono own4 (by omega), ?_⟩
    exact Below.trans (K1.out) (Below.trans (Below.trans (Below.mono K2.out s1) (Below.mono (Kp.alloc w2 _) (by omega))) (Below.trans K3.out (Below.mono k4 (by omega))))
end Go.Proofs.YtinpglfclbnhlaaGreatDoor
