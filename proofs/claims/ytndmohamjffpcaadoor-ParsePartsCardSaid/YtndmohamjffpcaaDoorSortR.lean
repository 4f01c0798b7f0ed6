/-
  The sort of runs: what is nearly sorted.
-/
import Derived.Test.YtndmohamjffpcaaDoorSortT
namespace Go.Proofs.YtndmohamjffpcaaDoor
open Go.RowKit Go.Sort Go.Shelf
set_option linter.unusedVariables false
set_option linter.unusedSimpArgs false
theorem ss_go (d : Array R) (b i : Nat) (h : i < b) (hl : ltR d[i]! d[i - 1]! = false) : scanSorted ltR d b i = scanSorted ltR d b (i + 1) := by
  rw [scanSorted, if_pos (by simp [h, hl])]
theorem ss_stop (d : Array R) (b i : Nat) (h : ¬ i < b ∨ ltR d[i]! d[i - 1]! = true) : scanSorted ltR d b i = i := by
  rw [scanSorted, if_neg]
  rcases h with h | h <;> simp [h]
theorem up_go (d : Array R) (b j : Nat) (h : j < b) (hl : ltR d[j]! d[j - 1]! = true) : shiftUp ltR b j d = shiftUp ltR b (j + 1) (swp d j (j - 1)) := by
  rw [shiftUp, if_pos h, if_neg (by simp [hl])]
theorem up_stop (d : Array R) (b j : Nat) (h : ¬ j < b ∨ ltR d[j]! d[j - 1]! = false) : shiftUp ltR b j d = d := by
  rw [shiftUp]
  by_cases c : j < b
  · rw [if_pos c]; rcases h with h | h
    · exact absurd c h
    · rw [if_pos (by simp [h])]
  · rw [if_neg c]
theorem down_go (d : Array R) (j : Nat) (hl : ltR d[j + 1]! d[j]! = true) : shiftDown ltR (j + 1) d = shiftDown ltR j (swp d (j + 1) j) := by
  rw [shiftDown, if_neg (by simp [hl])]
theorem down_stop (d : Array R) (j : Nat) (hl : ltR d[j + 1]! d[j]! = false) : shiftDown ltR (j + 1) d = d := by
  rw [shiftDown, if_pos (by simp [hl])]
theorem down_size : ∀ (j : Nat) (d : Array R), (shiftDown ltR j d).size = d.size := by
  intro j
  induction j with
  | zero => intro d; rw [shiftDown]
  | succ j ih =>
    intro d
    cases h : ltR d[j + 1]! d[j]! with
    | true => rw [down_go d j h, ih, size_swp]
    | false => rw [down_stop d j h]
theorem up_size (b : Nat) : ∀ (m j : Nat) (d : Array R), b - j ≤ m → (shiftUp ltR b j d).size = d.size := by
  intro m
  induction m with
  | zero => intro j d h; rw [up_stop d b j (.inl (by omega))]
  | succ m ih =>
    intro j d h
    by_cases c : j < b
    · cases hl : ltR d[j]! d[j - 1]! with
      | true => rw [up_go d b j c hl, ih _ _ (by omega), size_swp]
      | false => rw [up_stop d b j (.inr hl)]
    · rw [up_stop d b j (.inl c)]
theorem pi_step (a b s i : Nat) (d : Array R) (k : Nat) (hk : scanSorted ltR d b i = k) : partialIns ltR a b (s + 1) i d =
    if k = b then (d, true) else if b - a < 50 then (d, false) else
      partialIns ltR a b s k (if b - k ≥ 2 then shiftUp ltR b (k + 1) (if k - a ≥ 2 then shiftDown ltR (k - 1) (swp d k (k - 1)) else swp d k (k - 1)) else (if k - a ≥ 2 then shiftDown ltR (k - 1) (swp d k (k - 1)) else swp d k (k - 1))) := by
  rw [partialIns]; simp only [hk]
set_option maxHeartbeats 4000000 in
set_option maxRecDepth 100000 in
theorem pins_any {w0 : World} {b off n : Nat} (R0 : RowR w0 b off n) (cap : Nat) (d : Array R) (a c : Nat) (w : World) (hW : SW w0 b off d w) (hs : d.size = n) (hac : a < c) (hc : c + 1 ≤ n) :
    Calls Tryd.prog 87 #[.slice (some ⟨b, off, none⟩) n cap, .int .i64 a, .int .i64 ((c : Int) + 1), fvR] w fun e w' => e = .returned (.bool (Sort.partialInsertionSort ltR d a (c + 1)).2) ∧ SW w0 b off (Sort.partialInsertionSort ltR d a (c + 1)).1 w' := by
  have mx := mixed
  have hn := R0.hn
  have RW := Lib.hid R0
  clear R0
  have HW := Lib.hid hW
  clear hW
  have wa : IntKind.i64.wrap ((a : Int) + 1) = (a : Int) + 1 := by rw [IntKind.wrap_i64]; omega
  unfold fvR
  unfold Sort.partialInsertionSort
  go_enter Tryd.func87, Tryd.ntmps87
  go_wp2
  go_loopw [9, 10] (fun vi vj wr => ∃ (i s : Nat) (x : Int) (dk : Array R), vi = .int .i64 i ∧ vj = .int .i64 x ∧ x = 5 - (s : Int) ∧ s ≤ 5 ∧ a + 1 ≤ i ∧ i ≤ c + 1 ∧ dk.size = n ∧ Hid (SW w0 b off dk wr) ∧ Hid (partialIns ltR a (c + 1) s i dk = partialIns ltR a (c + 1) 5 (a + 1) d)) (fun _ vj _ => (5 - intOf vj).toNat)
  case atStart => exact ⟨a + 1, 5, _, d, by go_num, rfl, by omega, by omega, by omega, by omega, hs, HW, Lib.hid rfl⟩
  case round =>
    obtain ⟨i, s, x, dk, rfl, rfl, hx, hs5, hai, hic, hsk, HS, HM⟩ := hrel
    cases s with
    | zero =>
      have ex : x = 5 := by omega
      subst ex
      clear hx
      go_wp2
      go_ret
      rw [← HM.out]
      exact ⟨rfl, HS.out⟩
    | succ s =>
      have hx5 : x < 5 := by omega
      have hx0 : 0 ≤ x := by omega
      have HXX := Lib.hid hx
      clear hx
      have gx : decide (x < 5) = true := decide_eq_true hx5
      go_wp2_with fail
      go_loopw [9] (fun v wr => ∃ p : Nat, v = .int .i64 p ∧ i ≤ p ∧ p ≤ c + 1 ∧ Hid (SW w0 b off dk wr) ∧ Hid (scanSorted ltR dk (c + 1) p = scanSorted ltR dk (c + 1) i)) (fun v _ => c + 1 - (intOf v).toNat)
      case atStart => exact ⟨i, rfl, by omega, by omega, HS, Lib.hid rfl⟩
      case round =>
        obtain ⟨p, rfl, h1, h2, HP, HE⟩ := hrel
        go_upto_region 5 with fail
        go_cut [36] from 19 to 38 (fun v w' => ∃ gb : Bool, v = .bool gb ∧ Hid (gb = (decide (p < c + 1) && !ltR dk[p]! dk[p - 1]!)) ∧ Hid (SW w0 b off dk w'))
        case first =>
          by_cases hle : p < c + 1
          · obtain ⟨q, rfl⟩ : ∃ q, p = q + 1 := ⟨p - 1, by omega⟩
            have wq : IntKind.i64.wrap (q : Int) = (q : Int) := by rw [IntKind.wrap_i64]; omega
            have e0 : ((q : Int) + 1).toNat = q + 1 := by omega
            have z2 : (q : Int) < (n : Int) := by omega
            have z0 : (0 : Int) ≤ (q : Int) + 1 := by omega
            have z1 : (q : Int) + 1 < (n : Int) := by omega
            have g1 : decide ((q : Int) + 1 < (c : Int) + 1) = true := decide_eq_true (by omega)
            have g1' : (q : Int) + 1 < (c : Int) + 1 := by omega
            have g1b : (q : Int) < (c : Int) := by omega
            have g1c : decide ((q : Int) < (c : Int)) = true := decide_eq_true g1b
            obtain ⟨x1, x2, y1, y2, cf, hcf, cj1, cj2, cp1, cp2, CX⟩ := RW.out.two HP.out hsk (q + 1) q (by omega) (by omega)
            have HCF := Lib.hid hcf
            clear hcf
            rcases hl : decide (cf < 0) with _ | _
            · have hcn : ¬ cf < 0 := of_decide_eq_false hl
              go_wp2_with fail
              go_quiet_grown (first | (go_at_call 77; exact CX.out _ _))
              go_wp2
              go_meet
              case rel => exact ⟨true, rfl, Lib.hid (by rw [show q + 1 - 1 = q from rfl]; simp [← HCF.out, hl]; try omega), Lib.hid (HP.out.grown _ _)⟩
            · have hcn : cf < 0 := of_decide_eq_true hl
              go_wp2_with fail
              go_quiet_grown (first | (go_at_call 77; exact CX.out _ _))
              go_wp2
              go_meet
              case rel => exact ⟨false, rfl, Lib.hid (by rw [show q + 1 - 1 = q from rfl]; simp [← HCF.out, hl]; try omega), Lib.hid (HP.out.grown _ _)⟩
          · have g1 : decide ((p : Int) < (c : Int) + 1) = false := decide_eq_false (by omega)
            have g1' : ¬ (p : Int) < (c : Int) + 1 := by omega
            go_wp2_with fail
            go_region
            all_goals go_wp2
            go_meet
            case rel => exact ⟨false, rfl, Lib.hid (by rw [decide_eq_false hle]; rfl), Lib.hid HP.out.drew⟩
        case rest =>
          obtain ⟨gb, rfl, HB, HQ⟩ := hcut
          clear HP
          cases gb with
          | true =>
            have h : p < c + 1 ∧ ltR dk[p]! dk[p - 1]! = false := by have := HB.out; simpa using this.symm
            obtain ⟨ha, hb⟩ := h
            go_wp2
            refine ⟨⟨p + 1, by go_num, by omega, by omega, HQ, Lib.hid ?_⟩, ?_⟩
            · rw [← HE.out]; exact (ss_go dk (c + 1) p ha hb).symm
            · simp only [intOf]; omega
          | false =>
            have HZ : Hid (¬ p < c + 1 ∨ ltR dk[p]! dk[p - 1]! = true) := Lib.hid (by have := HB.out.symm; rw [Bool.and_eq_false_iff] at this; exact this.imp (fun h => of_decide_eq_false h) (fun h => by simpa using h))
            have HX : Hid (scanSorted ltR dk (c + 1) i = p) := Lib.hid (by rw [← HE.out]; exact ss_stop dk (c + 1) p HZ.out)
            clear HB HE
            have HT := Lib.hid (pi_step a (c + 1) s i dk p HX.out)
            have wq : IntKind.i64.wrap ((p : Int) - 1) = (p : Int) - 1 := by rw [IntKind.wrap_i64]; omega
            have wl : IntKind.i64.wrap ((c : Int) + 1 - (a : Int)) = (c : Int) + 1 - (a : Int) := by rw [IntKind.wrap_i64]; omega
            have e1 : ((p : Int) - 1).toNat = p - 1 := by omega
            have z0 : (0 : Int) ≤ (p : Int) - 1 := by omega
            have z2 : (p : Int) - 1 < (n : Int) := by omega
            have u0 : IntKind.i64.wrap ((p : Int) - (a : Int)) = (p : Int) - (a : Int) := by rw [IntKind.wrap_i64]; omega
            have u1 : IntKind.i64.wrap ((c : Int) + 1 - (p : Int)) = (c : Int) + 1 - (p : Int) := by rw [IntKind.wrap_i64]; omega
            have u2 : IntKind.i64.wrap ((p : Int) + 1) = (p : Int) + 1 := by rw [IntKind.wrap_i64]; omega
            by_cases hE : p = c + 1
            · have b1 : ((p : Int) == (c : Int) + 1) = true := by simp; omega
              have b2 : decide ((p : Int) = (c : Int) + 1) = true := decide_eq_true (by omega)
              have HE2 := Lib.hid hE
              clear hE
              go_wp2
              go_ret
              have er := HT.out
              rw [if_pos HE2.out, HM.out] at er
              rw [er]
              exact ⟨rfl, HQ.out⟩
            · have b1 : ((p : Int) == (c : Int) + 1) = false := by simp; omega
              have b2 : decide ((p : Int) = (c : Int) + 1) = false := decide_eq_false (by omega)
              have b3 : ¬ (p : Int) = (c : Int) + 1 := by omega
              have z1 : (p : Int) < (n : Int) := by omega
              by_cases hF : c + 1 - a < 50
              · have d1 : decide ((c : Int) + 1 - (a : Int) < 50) = true := decide_eq_true (by omega)
                have d2 : (c : Int) + 1 - (a : Int) < 50 := by omega
                go_wp2
                go_ret
                have er := HT.out
                rw [if_neg hE, if_pos hF, HM.out] at er
                rw [er]
                exact ⟨rfl, HQ.out⟩
              · have d1 : decide ((c : Int) + 1 - (a : Int) < 50) = false := decide_eq_false (by omega)
                have d2 : ¬ (c : Int) + 1 - (a : Int) < 50 := by omega
                obtain ⟨x1, x2, y1, y2, ⟨fa, fb, fc, fd⟩, ⟨ga, gb, gc, gd⟩, ⟨ka, kb⟩, HSw⟩ := RW.out.swap2 HQ.out hsk p (p - 1) (by omega) (by omega)
                go_upto_if 65 with (go_region)
                clear fa fb fc fd ga gb gc gd ka kb
                go_cut [11] from 65 to 100 (fun v11 w' => Hid (SW w0 b off (if p - a ≥ 2 then shiftDown ltR (p - 1) (swp dk p (p - 1)) else swp dk p (p - 1)) w'))
                case first =>
                  by_cases hb : p - a ≥ 2
                  · have f1 : decide ((p : Int) - (a : Int) ≥ 2) = true := decide_eq_true (by omega)
                    have f2 : (2 : Int) ≤ (p : Int) - (a : Int) := by omega
                    go_wp2_with fail
                    go_loopw [11] (fun v wr => ∃ (p1 : Nat) (dj : Array R), v = .int .i64 p1 ∧ p1 ≤ p - 1 ∧ dj.size = n ∧ Hid (SW w0 b off dj wr) ∧ Hid (shiftDown ltR p1 dj = shiftDown ltR (p - 1) (swp dk p (p - 1)))) (fun v _ => (intOf v).toNat)
                    case atStart => exact ⟨p - 1, _, by first | go_num | (congr 1; omega), by omega, by rw [size_swp]; exact hsk, HSw, Lib.hid rfl⟩
                    case round =>
                      obtain ⟨p1, dj, rfl, hp1, hsj, HJ, HD⟩ := hrel
                      cases p1 with
                      | zero =>
                        go_wp2
                        go_meet
                        case rel => exact Lib.hid (by rw [if_pos hb, ← HD.out, shiftDown]; exact HJ.out)
                      | succ r =>
                        have wr1 : IntKind.i64.wrap (r : Int) = (r : Int) := by rw [IntKind.wrap_i64]; omega
                        have e1 : ((r : Int) + 1).toNat = r + 1 := by omega
                        have y1' : (r : Int) + 1 < (n : Int) := by omega
                        have y2' : (r : Int) < (n : Int) := by omega
                        have y0 : (0 : Int) ≤ (r : Int) + 1 := by omega
                        have gr : decide ((1 : Int) ≤ (r : Int) + 1) = true := decide_eq_true (by omega)
                        obtain ⟨x1, x2, y1, y2, cf, hcf, cj1, cj2, cp1, cp2, CX⟩ := RW.out.two HJ.out hsj (r + 1) r (by omega) (by omega)
                        have HCF := Lib.hid hcf
                        clear hcf
                        rcases hl : decide (cf < 0) with _ | _
                        · have hcn : ¬ cf < 0 := of_decide_eq_false hl
                          go_wp2_with fail
                          go_quiet_grown (first | (go_at_call 77; exact CX.out _ _))
                          go_wp2
                          go_meet
                          case rel => exact Lib.hid (by rw [if_pos hb, ← HD.out, down_stop dj r (by rw [← HCF.out, hl])]; exact HJ.out.grown _ _)
                        · have hcn : cf < 0 := of_decide_eq_true hl
                          go_wp2_with fail
                          go_quiet_grown (first | (go_at_call 77; exact CX.out _ _))
                          have HG := Lib.hid (HJ.out.grown nq osq)
                          generalize grow (wr.drewN nq) osq = W3 at HG ⊢
                          clear cj1 cj2 cp1 cp2
                          obtain ⟨x1, x2, y1, y2, ⟨fa, fb, fc, fd⟩, ⟨ga, gb, gc, gd⟩, ⟨ka, kb⟩, HSx⟩ := RW.out.swap2 HG.out hsj (r + 1) r (by omega) (by omega)
                          go_wp2_with fail
                          go_region
                          all_goals go_wp2
                          refine ⟨⟨r, _, by go_num, by omega, by rw [size_swp]; exact hsj, HSx, Lib.hid ?_⟩, ?_⟩
                          · rw [← HD.out, down_go dj r (by rw [← HCF.out, hl])]
                          · simp only [intOf]; omega
                  · have f1 : decide ((p : Int) - (a : Int) ≥ 2) = false := decide_eq_false (by omega)
                    have f2 : ¬ (2 : Int) ≤ (p : Int) - (a : Int) := by omega
                    go_wp2
                    go_meet
                    case rel => rw [if_neg hb]; exact HSw
                case rest =>
                  clear HSw
                  obtain ⟨D, hD⟩ : ∃ D, D = (if p - a ≥ 2 then shiftDown ltR (p - 1) (swp dk p (p - 1)) else swp dk p (p - 1)) := ⟨_, rfl⟩
                  rw [← hD] at hcut
                  have hsD : D.size = n := by rw [hD]; split <;> simp only [down_size, size_swp, hsk]
                  have ER : Hid (partialIns ltR a (c + 1) s p (if c + 1 - p ≥ 2 then shiftUp ltR (c + 1) (p + 1) D else D) = partialIns ltR a (c + 1) 5 (a + 1) d) := Lib.hid (by
                    have er := HT.out
                    rw [if_neg hE, if_neg hF, HM.out, ← hD] at er
                    exact er.symm)
                  have HQD := hcut
                  clear hD hcut HT HM HX HQ
                  go_upto_if 104 with fail
                  by_cases hb : c + 1 - p ≥ 2
                  · have f1 : decide ((c : Int) + 1 - (p : Int) ≥ 2) = true := decide_eq_true (by omega)
                    have f2 : (2 : Int) ≤ (c : Int) + 1 - (p : Int) := by omega
                    go_wp2_with fail
                    go_loopw [12] (fun v wr => ∃ (p1 : Nat) (dj : Array R), v = .int .i64 ((p1 : Int) + 1) ∧ p ≤ p1 ∧ p1 ≤ c ∧ dj.size = n ∧ Hid (SW w0 b off dj wr) ∧ Hid (shiftUp ltR (c + 1) (p1 + 1) dj = shiftUp ltR (c + 1) (p + 1) D)) (fun v _ => c + 1 - (intOf v).toNat)
                    case atStart => exact ⟨p, D, rfl, by omega, by omega, hsD, HQD, Lib.hid rfl⟩
                    case round =>
                      obtain ⟨r, dj, rfl, hr0, hr1, hsj, HJ, HD⟩ := hrel
                      have wr1 : IntKind.i64.wrap (r : Int) = (r : Int) := by rw [IntKind.wrap_i64]; omega
                      have e1 : ((r : Int) + 1).toNat = r + 1 := by omega
                      by_cases hrc : r < c
                      · have gr : decide ((r : Int) + 1 < (c : Int) + 1) = true := decide_eq_true (by omega)
                        have gr' : (r : Int) + 1 < (c : Int) + 1 := by omega
                        have gr2 : (r : Int) < (c : Int) := by omega
                        have wr2 : IntKind.i64.wrap ((r : Int) + 1 + 1) = (r : Int) + 1 + 1 := by rw [IntKind.wrap_i64]; omega
                        have y1' : (r : Int) + 1 < (n : Int) := by omega
                        have y2' : (r : Int) < (n : Int) := by omega
                        have y0 : (0 : Int) ≤ (r : Int) + 1 := by omega
                        obtain ⟨x1, x2, y1, y2, cf, hcf, cj1, cj2, cp1, cp2, CX⟩ := RW.out.two HJ.out hsj (r + 1) r (by omega) (by omega)
                        have HCF := Lib.hid hcf
                        clear hcf
                        rcases hl : decide (cf < 0) with _ | _
                        · have hcn : ¬ cf < 0 := of_decide_eq_false hl
                          go_wp2_with fail
                          go_quiet_grown (first | (go_at_call 77; exact CX.out _ _))
                          go_wp2
                          refine ⟨⟨p, s, x + 1, dj, rfl, rfl, by have := HXX.out; omega, by omega, by omega, by omega, hsj, Lib.hid (HJ.out.grown _ _), Lib.hid (by rw [← ER.out, if_pos hb, ← HD.out, up_stop dj (c + 1) (r + 1) (.inr (by rw [show r + 1 - 1 = r from rfl, ← HCF.out, hl]))])⟩, by have := HXX.out; simp only [intOf]; omega⟩
                        · have hcn : cf < 0 := of_decide_eq_true hl
                          go_wp2_with fail
                          go_quiet_grown (first | (go_at_call 77; exact CX.out _ _))
                          have HG := Lib.hid (HJ.out.grown nq osq)
                          generalize grow (wr.drewN nq) osq = W3 at HG ⊢
                          clear cj1 cj2 cp1 cp2
                          obtain ⟨x1, x2, y1, y2, ⟨fa, fb, fc, fd⟩, ⟨ga, gb, gc, gd⟩, ⟨ka, kb⟩, HSx⟩ := RW.out.swap2 HG.out hsj (r + 1) r (by omega) (by omega)
                          go_wp2_with fail
                          go_region
                          all_goals go_wp2
                          refine ⟨⟨r + 1, _, by go_num, by omega, by omega, by rw [size_swp]; exact hsj, HSx, Lib.hid ?_⟩, ?_⟩
                          · rw [← HD.out, up_go dj (c + 1) (r + 1) (by omega) (by rw [show r + 1 - 1 = r from rfl, ← HCF.out, hl])]
                            rfl
                          · simp only [intOf]; omega
                      · have gr : decide ((r : Int) + 1 < (c : Int) + 1) = false := decide_eq_false (by omega)
                        have gr' : ¬ (r : Int) + 1 < (c : Int) + 1 := by omega
                        have gr2 : ¬ (r : Int) < (c : Int) := by omega
                        go_wp2
                        refine ⟨⟨p, s, x + 1, dj, rfl, rfl, by have := HXX.out; omega, by omega, by omega, by omega, hsj, HJ, Lib.hid (by rw [← ER.out, if_pos hb, ← HD.out, up_stop dj (c + 1) (r + 1) (.inl (by omega))])⟩, by have := HXX.out; simp only [intOf]; omega⟩
                  · have f1 : decide ((c : Int) + 1 - (p : Int) ≥ 2) = false := decide_eq_false (by omega)
                    have f2 : ¬ (2 : Int) ≤ (c : Int) + 1 - (p : Int) := by omega
                    go_wp2
                    refine ⟨⟨p, s, x + 1, D, rfl, rfl, by have := HXX.out; omega, by omega, by omega, by omega, hsD, HQD, Lib.hid (by rw [← ER.out, if_neg hb])⟩, by have := HXX.out; simp only [intOf]; omega⟩
end Go.Proofs.YtndmohamjffpcaaDoor
