/-
  The sort of runs: down a heap.
-/
import Derived.Test.YtndmohamjffpcaaDoorSortA
namespace Go.Proofs.YtndmohamjffpcaaDoor
open Go.RowKit Go.Sort Go.Shelf
set_option linter.unusedVariables false
def chF (d : Array R) (hi first r : Nat) : Nat := if decide (2 * r + 1 + 1 < hi) && ltR d[first + (2 * r + 1)]! d[first + (2 * r + 1) + 1]! then 2 * r + 2 else 2 * r + 1
theorem sift_stop (hi first r : Nat) (d : Array R) (h : ¬ 2 * r + 1 < hi) : siftDown ltR hi first r d = d := by rw [siftDown, dif_pos (by omega)]
theorem sift_step (hi first r : Nat) (d : Array R) (h : 2 * r + 1 < hi) : siftDown ltR hi first r d = if ltR d[first + r]! d[first + chF d hi first r]! then siftDown ltR hi first (chF d hi first r) (swp d (first + r) (first + chF d hi first r)) else d := by
  rw [siftDown, dif_neg (by omega)]
  unfold chF
  by_cases c : (decide (2 * r + 1 + 1 < hi) && ltR d[first + (2 * r + 1)]! d[first + (2 * r + 1) + 1]!) = true
  · rw [if_pos c, if_pos c]
    have g : 2 * r + 2 < hi := by simp at c; omega
    by_cases e : ltR d[first + r]! d[first + (2 * r + 2)]! = true
    · rw [if_neg (by simp [e]), dif_pos g, if_pos e]
    · rw [if_pos (by simpa using e), if_neg e]
  · rw [if_neg c, if_neg c]
    by_cases e : ltR d[first + r]! d[first + (2 * r + 1)]! = true
    · rw [if_neg (by simp [e]), if_pos e]
    · rw [if_pos (by simpa using e), if_neg e]
set_option maxHeartbeats 4000000 in
theorem sift_any {w0 : World} {b off n : Nat} (R0 : RowR w0 b off n) (cap : Nat) (d : Array R) (lo hi f : Nat) (w : World) (hW : SW w0 b off d w) (hs : d.size = n) (hhi : f + hi ≤ n) (hlo : lo ≤ n) :
    Calls Tryd.prog 93 #[.slice (some ⟨b, off, none⟩) n cap, .int .i64 lo, .int .i64 hi, .int .i64 f, fvR] w fun e w' => e = .returned (.tuple #[]) ∧ SW w0 b off (Sort.siftDown ltR hi f lo d) w' := by
  have mx := mixed
  have hn := R0.hn
  have RW := Lib.hid R0
  clear R0
  have HW := Lib.hid hW
  clear hW
  unfold fvR
  go_enter Tryd.func93, Tryd.ntmps93
  go_wp2
  go_loopw [10] (fun vi wr => ∃ (r : Nat) (dk : Array R), vi = .int .i64 r ∧ r ≤ n ∧ dk.size = n ∧ SW w0 b off dk wr ∧ Hid (siftDown ltR hi f r dk = siftDown ltR hi f lo d)) (fun vi _ => n - (intOf vi).toNat)
  case atStart => exact ⟨lo, d, rfl, by omega, hs, HW.out, Lib.hid rfl⟩
  case round =>
    obtain ⟨r, dk, rfl, hr, hsk, hwr, HO⟩ := hrel
    have HWR := Lib.hid hwr
    clear hwr
    by_cases hlt : 2 * r + 1 < hi
    · have b1 : decide ((2 * (r : Int) + 1) ≥ (hi : Int)) = false := decide_eq_false (by omega)
      have b1n : ¬ (hi : Int) ≤ 2 * (r : Int) + 1 := by omega
      have v1 : IntKind.i64.wrap (2 * (r : Int)) = 2 * (r : Int) := by rw [IntKind.wrap_i64]; omega
      have v2 : IntKind.i64.wrap (2 * (r : Int) + 1) = 2 * (r : Int) + 1 := by rw [IntKind.wrap_i64]; omega
      have v3 : IntKind.i64.wrap (2 * (r : Int) + 1 + 1) = 2 * (r : Int) + 1 + 1 := by rw [IntKind.wrap_i64]; omega
      have v4 : IntKind.i64.wrap ((f : Int) + (2 * (r : Int) + 1)) = (f : Int) + (2 * (r : Int) + 1) := by rw [IntKind.wrap_i64]; omega
      have v5 : IntKind.i64.wrap ((f : Int) + (2 * (r : Int) + 1) + 1) = (f : Int) + (2 * (r : Int) + 1) + 1 := by rw [IntKind.wrap_i64]; omega
      have v7 : IntKind.i64.wrap ((f : Int) + (r : Int)) = (f : Int) + (r : Int) := by rw [IntKind.wrap_i64]; omega
      have t1 : ((f : Int) + (2 * (r : Int) + 1)).toNat = f + (2 * r + 1) := by omega
      have t2 : ((f : Int) + (2 * (r : Int) + 1) + 1).toNat = f + (2 * r + 1) + 1 := by omega
      have t4 : ((f : Int) + (r : Int)).toNat = f + r := by omega
      have n1 : (0 : Int) ≤ (f : Int) + (2 * (r : Int) + 1) := by omega
      have n4 : (0 : Int) ≤ (f : Int) + (r : Int) := by omega
      have m1 : (f : Int) + (2 * (r : Int) + 1) < (n : Int) := by omega
      have m4 : (f : Int) + (r : Int) < (n : Int) := by omega
      have ST := Lib.hid (sift_step hi f r dk hlt)
      -- behind the choice of the child
      by_cases hc2 : 2 * r + 1 + 1 < hi
      · have b2 : decide ((2 * (r : Int) + 1 + 1) < (hi : Int)) = true := decide_eq_true (by omega)
        have b2n : (2 * (r : Int) + 1 + 1) < (hi : Int) := by omega
        have n2 : (0 : Int) ≤ (f : Int) + (2 * (r : Int) + 1) + 1 := by omega
        have m2 : (f : Int) + (2 * (r : Int) + 1) + 1 < (n : Int) := by omega
        obtain ⟨x1, x2, y1, y2, cf, hcf, cj1, cj2, cp1, cp2, CX⟩ := RW.out.two HWR.out hsk (f + (2 * r + 1)) (f + (2 * r + 1) + 1) (by omega) (by omega)
        have HCF := Lib.hid hcf
        clear hcf
        rcases hl : decide (cf < 0) with _ | _
        · have hcn : ¬ cf < 0 := of_decide_eq_false hl
          have hch : chF dk hi f r = 2 * r + 1 := by unfold chF; rw [if_neg (by rw [← HCF.out, hl]; simp)]
          go_wp2_with fail
          go_quiet_grown (first | (go_at_call 77; exact CX.out _ _))
          go_wp2_with fail
          have HG := Lib.hid (HWR.out.grown nq osq)
          generalize grow (wr.drewN nq) osq = W2 at HG ⊢
          clear cj1 cj2 cp1 cp2
          rw [hch] at ST
          have u1 : IntKind.i64.wrap ((f : Int) + (2 * (r : Int) + 1)) = (f : Int) + (2 * (r : Int) + 1) := by rw [IntKind.wrap_i64]; omega
          have u2 : ((f : Int) + (2 * (r : Int) + 1)).toNat = f + (2 * r + 1) := by omega
          have u3 : (f : Int) + (2 * (r : Int) + 1) < (n : Int) := by omega
          have u4 : (0 : Int) ≤ (f : Int) + (2 * (r : Int) + 1) := by omega
          obtain ⟨x1, x2, y1, y2, cg, hcg, dj1, dj2, dp1, dp2, CY⟩ := RW.out.two HG.out hsk (f + r) (f + (2 * r + 1)) (by omega) (by omega)
          have HCG := Lib.hid hcg
          clear hcg
          rcases hl2 : decide (cg < 0) with _ | _
          · have hcn2 : ¬ cg < 0 := of_decide_eq_false hl2
            go_wp2_with fail
            go_quiet_grown (first | (go_at_call 77; exact CY.out _ _))
            go_wp2
            (try simp only [Exit.inBlock, Exit.then]); refine bodyPost_ret (results_none rfl _ _ _) rfl ?_
            refine ⟨rfl, ?_⟩
            rw [← HO.out, ST.out, if_neg (by rw [← HCG.out, hl2]; simp)]
            exact HG.out.grown _ _
          · have hcn2 : cg < 0 := of_decide_eq_true hl2
            go_wp2_with fail
            go_quiet_grown (first | (go_at_call 77; exact CY.out _ _))
            go_wp2_with fail
            clear dj1 dj2 dp1 dp2
            have HK := Lib.hid (HG.out.grown nq osq)
            generalize grow (W2.drewN nq) osq = W3 at HK ⊢
            obtain ⟨x1, x2, y1, y2, ⟨fa, fb, fc, fd⟩, ⟨ga, gb, gc, gd⟩, HS⟩ := RW.out.swap HK.out hsk (f + r) (f + (2 * r + 1)) (by omega) (by omega)
            go_region
            all_goals go_wp2
            refine ⟨⟨2 * r + 1, swp dk (f + r) (f + (2 * r + 1)), by go_num, by omega, by rw [size_swp]; exact hsk, HS.out, Lib.hid ?_⟩, ?_⟩
            · rw [← HO.out, ST.out, if_pos (by rw [← HCG.out, hl2])]
            · simp only [intOf]; omega
        · have hcn : cf < 0 := of_decide_eq_true hl
          have hch : chF dk hi f r = 2 * r + 2 := by unfold chF; rw [if_pos (by rw [← HCF.out, hl]; simp; omega)]
          go_wp2_with fail
          go_quiet_grown (first | (go_at_call 77; exact CX.out _ _))
          go_wp2_with fail
          have HG := Lib.hid (HWR.out.grown nq osq)
          generalize grow (wr.drewN nq) osq = W2 at HG ⊢
          clear cj1 cj2 cp1 cp2
          rw [hch] at ST
          have u1 : IntKind.i64.wrap ((f : Int) + (2 * (r : Int) + 1 + 1)) = (f : Int) + (2 * (r : Int) + 1 + 1) := by rw [IntKind.wrap_i64]; omega
          have u2 : ((f : Int) + (2 * (r : Int) + 1 + 1)).toNat = f + (2 * r + 2) := by omega
          have u3 : (f : Int) + (2 * (r : Int) + 1 + 1) < (n : Int) := by omega
          have u4 : (0 : Int) ≤ (f : Int) + (2 * (r : Int) + 1 + 1) := by omega
          obtain ⟨x1, x2, y1, y2, cg, hcg, dj1, dj2, dp1, dp2, CY⟩ := RW.out.two HG.out hsk (f + r) (f + (2 * r + 2)) (by omega) (by omega)
          have HCG := Lib.hid hcg
          clear hcg
          rcases hl2 : decide (cg < 0) with _ | _
          · have hcn2 : ¬ cg < 0 := of_decide_eq_false hl2
            go_wp2_with fail
            go_quiet_grown (first | (go_at_call 77; exact CY.out _ _))
            go_wp2
            (try simp only [Exit.inBlock, Exit.then]); refine bodyPost_ret (results_none rfl _ _ _) rfl ?_
            refine ⟨rfl, ?_⟩
            rw [← HO.out, ST.out, if_neg (by rw [← HCG.out, hl2]; simp)]
            exact HG.out.grown _ _
          · have hcn2 : cg < 0 := of_decide_eq_true hl2
            go_wp2_with fail
            go_quiet_grown (first | (go_at_call 77; exact CY.out _ _))
            go_wp2_with fail
            clear dj1 dj2 dp1 dp2
            have HK := Lib.hid (HG.out.grown nq osq)
            generalize grow (W2.drewN nq) osq = W3 at HK ⊢
            obtain ⟨x1, x2, y1, y2, ⟨fa, fb, fc, fd⟩, ⟨ga, gb, gc, gd⟩, HS⟩ := RW.out.swap HK.out hsk (f + r) (f + (2 * r + 2)) (by omega) (by omega)
            go_region
            all_goals go_wp2
            refine ⟨⟨2 * r + 2, swp dk (f + r) (f + (2 * r + 2)), by go_num, by omega, by rw [size_swp]; exact hsk, HS.out, Lib.hid ?_⟩, ?_⟩
            · rw [← HO.out, ST.out, if_pos (by rw [← HCG.out, hl2])]
            · simp only [intOf]; omega
      · have b2 : decide ((2 * (r : Int) + 1 + 1) < (hi : Int)) = false := decide_eq_false (by omega)
        have b2n : ¬ (2 * (r : Int) + 1 + 1) < (hi : Int) := by omega
        have hch : chF dk hi f r = 2 * r + 1 := by unfold chF; rw [if_neg (by simp; omega)]
        go_wp2_with fail
        go_region
        all_goals go_wp2_with fail
        have HG := Lib.hid (HWR.out.drew)
        generalize wr.drew = W2 at HG ⊢
        rw [hch] at ST
        have u1 : IntKind.i64.wrap ((f : Int) + (2 * (r : Int) + 1)) = (f : Int) + (2 * (r : Int) + 1) := by rw [IntKind.wrap_i64]; omega
        have u2 : ((f : Int) + (2 * (r : Int) + 1)).toNat = f + (2 * r + 1) := by omega
        have u3 : (f : Int) + (2 * (r : Int) + 1) < (n : Int) := by omega
        have u4 : (0 : Int) ≤ (f : Int) + (2 * (r : Int) + 1) := by omega
        obtain ⟨x1, x2, y1, y2, cg, hcg, dj1, dj2, dp1, dp2, CY⟩ := RW.out.two HG.out hsk (f + r) (f + (2 * r + 1)) (by omega) (by omega)
        have HCG := Lib.hid hcg
        clear hcg
        rcases hl2 : decide (cg < 0) with _ | _
        · have hcn2 : ¬ cg < 0 := of_decide_eq_false hl2
          go_wp2_with fail
          go_quiet_grown (first | (go_at_call 77; exact CY.out _ _))
          go_wp2
          (try simp only [Exit.inBlock, Exit.then]); refine bodyPost_ret (results_none rfl _ _ _) rfl ?_
          refine ⟨rfl, ?_⟩
          rw [← HO.out, ST.out, if_neg (by rw [← HCG.out, hl2]; simp)]
          exact HG.out.grown _ _
        · have hcn2 : cg < 0 := of_decide_eq_true hl2
          go_wp2_with fail
          go_quiet_grown (first | (go_at_call 77; exact CY.out _ _))
          go_wp2_with fail
          clear dj1 dj2 dp1 dp2
          have HK := Lib.hid (HG.out.grown nq osq)
          generalize grow (W2.drewN nq) osq = W3 at HK ⊢
          obtain ⟨x1, x2, y1, y2, ⟨fa, fb, fc, fd⟩, ⟨ga, gb, gc, gd⟩, HS⟩ := RW.out.swap HK.out hsk (f + r) (f + (2 * r + 1)) (by omega) (by omega)
          go_region
          all_goals go_wp2
          refine ⟨⟨2 * r + 1, swp dk (f + r) (f + (2 * r + 1)), by go_num, by omega, by rw [size_swp]; exact hsk, HS.out, Lib.hid ?_⟩, ?_⟩
          · rw [← HO.out, ST.out, if_pos (by rw [← HCG.out, hl2])]
          · simp only [intOf]; omega
    · have b1 : decide ((2 * (r : Int) + 1) ≥ (hi : Int)) = true := decide_eq_true (by omega)
      have v1 : IntKind.i64.wrap (2 * (r : Int)) = 2 * (r : Int) := by rw [IntKind.wrap_i64]; omega
      go_wp2
      go_end0
      refine ⟨rfl, ?_⟩
      rw [← HO.out, sift_stop _ _ _ _ hlt]
      exact HWR.out
end Go.Proofs.YtndmohamjffpcaaDoor
