/-
  The sort of runs: the break of patterns.
-/
import Derived.Test.YtndmohamjffpcaaDoorSortX
namespace Go.Proofs.YtndmohamjffpcaaDoor
open Go.RowKit Go.Sort Go.Shelf
set_option linter.unusedVariables false
set_option linter.unusedSimpArgs false
theorem brk_eq (d : Array R) (a l : Nat) (h : 8 ≤ l) : Sort.breakPatterns d a (a + l) = (([0, 1, 2] : List Nat).foldl (fun st k => breakStep a l (1 <<< bitsLen l) st (a + l / 4 * 2 - 1 + k)) (UInt64.ofNat l, d)).2 := by
  unfold Sort.breakPatterns
  simp only [Nat.add_sub_cancel_left]
  rw [if_pos h]
  rfl
theorem drop_step {β : Type} (F : β → Nat → β) (st : β) (t : Nat) (h : t < 3) : (([0, 1, 2] : List Nat).drop t).foldl F st = (([0, 1, 2] : List Nat).drop (t + 1)).foldl F (F st t) := by
  have : t = 0 ∨ t = 1 ∨ t = 2 := by omega
  rcases this with rfl | rfl | rfl <;> rfl
theorem brk_step (a l M i : Nat) (r : UInt64) (d : Array R) (q : Nat) (h : (if l ≤ (xorNext r).toNat &&& (M - 1) then ((xorNext r).toNat &&& (M - 1)) - l else (xorNext r).toNat &&& (M - 1)) = q) :
    breakStep a l M (r, d) i = (xorNext r, swp d i (a + q)) := by
  unfold breakStep
  simp only [ge_iff_le]
  rw [h]
set_option maxHeartbeats 4000000 in
set_option maxRecDepth 1000000 in
theorem brk_any {w0 : World} {b off n : Nat} (R0 : RowR w0 b off n) (cap : Nat) (d : Array R) (a l : Nat) (w : World) (hW : SW w0 b off d w) (hs : d.size = n) (hl : a + l ≤ n) (h12 : 12 < l) (hsm : n ≤ 4294967295) :
    Calls Tryd.prog 84 #[.slice (some ⟨b, off, none⟩) n cap, .int .i64 a, .int .i64 ((a : Int) + l), fvR] w fun e w' =>
      e = .returned (.tuple #[]) ∧ SW w0 b off (Sort.breakPatterns d a (a + l)) w' := by
  have mx := mixed
  have hn := R0.hn
  rw [brk_eq d a l (by omega)]
  obtain ⟨M, hM⟩ : ∃ M : Nat, M = 1 <<< bitsLen l := ⟨_, rfl⟩
  have hM1 : 1 ≤ M := by rw [hM, Nat.one_shiftLeft]; exact Nat.two_pow_pos _
  have hM2 : M ≤ 2 * l := by rw [hM, Nat.one_shiftLeft]; exact two_pow_bitsLen_le (by omega)
  have NP := Lib.hid (fun w => pow_any l w (by omega))
  rw [← hM] at NP
  rw [← hM]
  clear hM
  have hb := R0.hb
  have hle0 : w0.heap.size ≤ w.heap.size := SWK.le hW
  have bne : w.heap.size ≠ b := by omega
  have bne' : ¬ b = w.heap.size := by omega
  obtain ⟨I0, hI0⟩ : ∃ I0, I0 = a + l / 4 * 2 - 1 := ⟨_, rfl⟩
  have cI0 : (I0 : Int) = (a : Int) + (l : Int) / 4 * 2 - 1 := by omega
  have SA := Lib.hid (SWK.alloc hW (.cells #[.int .u64 l] 144))
  have RW := Lib.hid R0
  clear R0 hW
  rw [← hI0]
  have ws : IntKind.i64.wrap ((a : Int) + l - a) = l := by rw [IntKind.wrap_i64]; omega
  have wu : IntKind.u64.wrap (l : Int) = l := by rw [IntKind.wrap_u64]; omega
  have g8 : decide ((8 : Int) ≤ l) = true := decide_eq_true (by omega)
  have g8' : (8 : Int) ≤ l := by omega
  have wI : IntKind.i64.wrap ((a : Int) + (l : Int) / 4 * 2 - 1) = I0 := by rw [IntKind.wrap_i64]; omega
  have wI2 : IntKind.i64.wrap ((a : Int) + (l : Int) / 4 * 2) = (a : Int) + (l : Int) / 4 * 2 := by rw [IntKind.wrap_i64]; omega
  have wI3 : IntKind.i64.wrap ((a : Int) + (l : Int) / 4 * 2 + 1) = (I0 : Int) + 2 := by rw [IntKind.wrap_i64]; omega
  have i1 : a ≤ I0 := by omega
  have i2 : I0 + 2 < a + l := by omega
  clear hI0 cI0
  unfold fvR
  go_enter Tryd.func84, Tryd.ntmps84
  go_wp2_with (go_at_call 94; refine (NP.out _).mono ?_; rintro e w' ⟨rfl, rfl⟩)
  go_loopw [11] (fun v wr => ∃ (t : Nat) (r : UInt64) (dk : Array R), v = .int .i64 ((I0 : Int) + t) ∧ t ≤ 3 ∧ dk.size = n ∧ Hid (SW w0 b off dk wr) ∧
      wr.cell? ⟨w.heap.size, 0, none⟩ = some (.int .u64 (r.toNat : Int)) ∧ wr.frozen? ⟨w.heap.size, 0, none⟩ = false ∧
      Hid (((([0, 1, 2] : List Nat).drop t).foldl (fun st k => breakStep a l M st (I0 + k)) (r, dk)).2 = (([0, 1, 2] : List Nat).foldl (fun st k => breakStep a l M st (I0 + k)) (UInt64.ofNat l, d)).2)) (fun v _ => (I0 + 3) - (intOf v).toNat)
  case atStart =>
    refine ⟨0, UInt64.ofNat l, d, by first | go_num | (congr 1; omega), by omega, hs, SA, ?_, by simp, Lib.hid rfl⟩
    rw [show (UInt64.ofNat l).toNat = l from by simp; omega]
    simp
  case round =>
    obtain ⟨t, r, dk, rfl, ht, hsk, HS, cR, fR, HG⟩ := hrel
    clear SA
    by_cases ht3 : t < 3
    · have gt : decide ((I0 : Int) + (t : Int) ≤ (I0 : Int) + 2) = true := decide_eq_true (by omega)
      have gt' : (I0 : Int) + (t : Int) ≤ (I0 : Int) + 2 := by omega
      have gt2 : (t : Int) ≤ 2 := by omega
      have gt3 : decide ((t : Int) ≤ 2) = true := decide_eq_true gt2
      have wn : IntKind.i64.wrap ((I0 : Int) + (t : Int) + 1) = (I0 : Int) + (t : Int) + 1 := by rw [IntKind.wrap_i64]; omega
      obtain ⟨R', hR'⟩ : ∃ R' : Nat, R' = xorNextN r.toNat := ⟨_, rfl⟩
      have lR : r.toNat < 18446744073709551616 := r.toNat_lt
      have lR' : R' < 18446744073709551616 := by rw [hR']; exact xorNextN_lt _ lR
      have HN : Hid ((xorNext r).toNat = R') := Lib.hid (by rw [hR', xorNext_toNat])
      obtain ⟨O, hO⟩ : ∃ O : Nat, O = R' &&& (M - 1) := ⟨_, rfl⟩
      have lO : O ≤ M - 1 := by rw [hO]; exact Nat.and_le_right
      have eAnd : bits .and .u64 (R' : Int) ((M : Int) - 1) = (O : Int) := by
        rw [show ((M : Int) - 1) = ((M - 1 : Nat) : Int) by omega, bits_and_u64_nat _ _ lR' (by omega), hO]
      have NX := Lib.hid (xor_any w.heap.size 0 r.toNat lR wr cR fR)
      rw [← hR'] at NX
      have HB : Hid (∀ q, (if l ≤ O then O - l else O) = q → breakStep a l M (r, dk) (I0 + t) = (xorNext r, swp dk (I0 + t) (a + q))) := Lib.hid (fun q h => brk_step a l M (I0 + t) r dk q (by rw [HN.out, ← hO]; exact h))
      have S2 : Hid (SW w0 b off dk ((wr.setCell ⟨w.heap.size, 0, none⟩ (.int .u64 (R' : Int))).drewN 3)) := Lib.hid (SWK.drewN (SWK.setCell_new HS.out w.heap.size 0 (.int .u64 (R' : Int)) hle0) 3)
      have cR2 : ((wr.setCell ⟨w.heap.size, 0, none⟩ (.int .u64 (R' : Int))).drewN 3).cell? ⟨w.heap.size, 0, none⟩ = some (.int .u64 (R' : Int)) := by
        rw [World.cell?_drewN]; exact World.cell?_setCell_same _ _ _ cR
      have fR2 : ((wr.setCell ⟨w.heap.size, 0, none⟩ (.int .u64 (R' : Int))).drewN 3).frozen? ⟨w.heap.size, 0, none⟩ = false := by
        rw [World.frozen?_drewN]; simpa using fR
      generalize (wr.setCell ⟨w.heap.size, 0, none⟩ (.int .u64 (R' : Int))).drewN 3 = w2 at NX S2 cR2 fR2
      clear cR fR HS hO hR'
      have wM : IntKind.u64.wrap ((M : Int) - 1) = (M : Int) - 1 := by rw [IntKind.wrap_u64]; omega
      have wO : IntKind.i64.wrap (O : Int) = (O : Int) := by rw [IntKind.wrap_i64]; omega
      have ei : ((I0 : Int) + (t : Int)).toNat = I0 + t := by omega
      have zi0 : (0 : Int) ≤ (I0 : Int) + (t : Int) := by omega
      have zi1 : (I0 : Int) + (t : Int) < (n : Int) := by omega
      by_cases hLO : l ≤ O
      · obtain ⟨q, hq⟩ : ∃ q, O = l + q := ⟨O - l, by omega⟩
        have gq : decide ((l : Int) ≤ (O : Int)) = true := decide_eq_true (by omega)
        have gq' : (l : Int) ≤ (O : Int) := by omega
        have wq : IntKind.i64.wrap ((O : Int) - (l : Int)) = (q : Int) := by rw [IntKind.wrap_i64]; omega
        have ql : q < l := by omega
        have HQ := Lib.hid hq
        clear hq
        have wj : IntKind.i64.wrap ((a : Int) + (q : Int)) = (a : Int) + (q : Int) := by rw [IntKind.wrap_i64]; omega
        have ej : ((a : Int) + (q : Int)).toNat = a + q := by omega
        have zj0 : (0 : Int) ≤ (a : Int) + (q : Int) := by omega
        have zj1 : (a : Int) + (q : Int) < (n : Int) := by omega
        have HB2 : Hid (breakStep a l M (r, dk) (I0 + t) = (xorNext r, swp dk (I0 + t) (a + q))) := Lib.hid (HB.out q (by first | (have := HQ.out; rw [if_pos (by omega)]; omega) | (rw [if_neg (by omega)])))
        obtain ⟨x1, x2, y1, y2, ⟨fa, fb, fc, fd⟩, ⟨ga, gb, gc, gd⟩, ⟨ka, kb⟩, HSx⟩ := RW.out.swap2 S2.out hsk (I0 + t) (a + q) (by omega) (by omega)
        go_wp2_with (go_at_call 95; refine (NX.out).mono ?_; rintro e w' ⟨rfl, hw'⟩; obtain rfl : w2 = w' := hw'.symm)
        go_region
        all_goals go_wp2
        refine ⟨⟨t + 1, xorNext r, _, by go_num, by omega, by rw [size_swp]; exact hsk, HSx, ?_, ?_, Lib.hid ?_⟩, ?_⟩
        · rw [World.cell?_drew]
          rw [World.cell?_setCell_other _ _ _ _ (by intro h; simp only [Addr.mk.injEq] at h; omega), World.cell?_setCell_other _ _ _ _ (by intro h; simp only [Addr.mk.injEq] at h; omega), World.cell?_setCell_other _ _ _ _ (by intro h; simp only [Addr.mk.injEq] at h; omega), World.cell?_setCell_other _ _ _ _ (by intro h; simp only [Addr.mk.injEq] at h; omega)]
          rw [cR2, ← HN.out]
        · simpa using fR2
        · rw [← HG.out, drop_step _ _ t ht3, HB2.out]
        · simp only [intOf]; omega
      · have gq : decide ((l : Int) ≤ (O : Int)) = false := decide_eq_false (by omega)
        have gq' : ¬ (l : Int) ≤ (O : Int) := by omega
        have wj : IntKind.i64.wrap ((a : Int) + (O : Int)) = (a : Int) + (O : Int) := by rw [IntKind.wrap_i64]; omega
        have ej : ((a : Int) + (O : Int)).toNat = a + O := by omega
        have zj0 : (0 : Int) ≤ (a : Int) + (O : Int) := by omega
        have zj1 : (a : Int) + (O : Int) < (n : Int) := by omega
        have HB2 : Hid (breakStep a l M (r, dk) (I0 + t) = (xorNext r, swp dk (I0 + t) (a + O))) := Lib.hid (HB.out O (by first | (have := HQ.out; rw [if_pos (by omega)]; omega) | (rw [if_neg (by omega)])))
        obtain ⟨x1, x2, y1, y2, ⟨fa, fb, fc, fd⟩, ⟨ga, gb, gc, gd⟩, ⟨ka, kb⟩, HSx⟩ := RW.out.swap2 S2.out hsk (I0 + t) (a + O) (by omega) (by omega)
        go_wp2_with (go_at_call 95; refine (NX.out).mono ?_; rintro e w' ⟨rfl, hw'⟩; obtain rfl : w2 = w' := hw'.symm)
        go_region
        all_goals go_wp2
        refine ⟨⟨t + 1, xorNext r, _, by go_num, by omega, by rw [size_swp]; exact hsk, HSx, ?_, ?_, Lib.hid ?_⟩, ?_⟩
        · rw [World.cell?_drew]
          rw [World.cell?_setCell_other _ _ _ _ (by intro h; simp only [Addr.mk.injEq] at h; omega), World.cell?_setCell_other _ _ _ _ (by intro h; simp only [Addr.mk.injEq] at h; omega), World.cell?_setCell_other _ _ _ _ (by intro h; simp only [Addr.mk.injEq] at h; omega), World.cell?_setCell_other _ _ _ _ (by intro h; simp only [Addr.mk.injEq] at h; omega)]
          rw [cR2, ← HN.out]
        · simpa using fR2
        · rw [← HG.out, drop_step _ _ t ht3, HB2.out]
        · simp only [intOf]; omega
    · obtain rfl : t = 3 := by omega
      have gt : decide ((I0 : Int) + ((3 : Nat) : Int) ≤ (I0 : Int) + 2) = false := decide_eq_false (by omega)
      have gt' : ¬ (I0 : Int) + ((3 : Nat) : Int) ≤ (I0 : Int) + 2 := by omega
      go_wp2
      go_end0
      refine ⟨rfl, ?_⟩
      have e := HG.out
      simp only [List.drop, List.foldl, Nat.add_zero] at e
      rw [← e]
      exact HS.out
end Go.Proofs.YtndmohamjffpcaaDoor
