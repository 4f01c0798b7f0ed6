/-
  Layer 8, the document's answer: contracts of numbers, put (PointIs).
-/
import Derived.Test.YtinpglfclbnhlaaGreatDoorPiB
import Derived.Test.YtinpglfclbnhlaaGreatDoorIsD
import Derived.Test.YtinpglfclbnhlaaGreatDoorIn
import Derived.Test.YtinpglfclbnhlaaGreatDoorGBa
namespace Go.Proofs.YtinpglfclbnhlaaGreatDoor
open Go.RowKit
set_option linter.unusedVariables false
set_option linter.unusedSimpArgs false
def nmP (s : ByteArray) (a : Int) (t : Nat) : List Int := (upL a t).filter fun n => matchM s n
theorem nm_next (s : ByteArray) (a : Int) (t : Nat) : nmP s a (t + 1) = nmP s a t ++ (if matchM s (a + (t : Int)) = true then [a + (t : Int)] else []) := by
  have e : upL a (t + 1) = upL a t ++ [a + (t : Int)] := by
    unfold upL
    rw [List.range_succ, List.map_append]
    rfl
  unfold nmP
  rw [e, List.filter_append]
  congr 1
  by_cases h : matchM s (a + (t : Int)) = true
  · rw [if_pos h, List.filter_cons_of_pos h]; rfl
  · rw [if_neg h, List.filter_cons_of_neg h]; rfl
theorem nm_len (s : ByteArray) (a : Int) (t : Nat) : (nmP s a t).length ≤ t := by
  unfold nmP
  refine Nat.le_trans (List.length_filter_le _ _) ?_
  unfold upL
  simp
theorem nm_all (s : ByteArray) (a b : Int) : nmP s a (b - a + 1).toNat = numsL s a b := rfl
set_option maxHeartbeats 4000000 in
set_option maxRecDepth 100000 in
theorem rnumbers_any (s : ByteArray) (a b : Int) (w : World) (hs : s.size ≤ maxLen) (ha : 0 ≤ a) (hab : a ≤ b + 1) (hb : b ≤ 10000) :
    Calls Tryz.prog 44 #[.string s, .int .i64 a, .int .i64 b] w fun e w' => ∃ v', e = .returned v' ∧ w'.ownsRow w.heap.size 3 1 v' (numsL s a b).length (cellsZ (numsL s a b)) ∧ Kp w w' := by
  obtain ⟨i0, hi, hz0, hz1, hz2⟩ := info_parts infoZ
  have C := Lib.hid (fun n w1 (h1 : 0 ≤ n) (h2 : n ≤ 10000) => rmatch_any s n w1 hs (by omega) (by omega))
  obtain ⟨N, hN⟩ : ∃ N, (b - a + 1).toNat = N := ⟨_, rfl⟩
  have NX := Lib.hid (fun t => nm_next s a t)
  have NL := Lib.hid (fun t => nm_len s a t)
  have NA := Lib.hid (show nmP s a N = numsL s a b by rw [← hN]; rfl)
  have N0 := Lib.hid (show nmP s a 0 = [] from rfl)
  generalize numsL s a b = X at *
  generalize nmP s a = P at *
  have HB := Lib.hid (show b = a + (N : Int) - 1 by omega)
  have nb : N ≤ 10001 := by omega
  clear hN hs
  go_enter Tryz.func44, Tryz.ntmps44
  go_wp2
  go_loopw [7, 8] (fun q iv wr => ∃ (t : Nat) (x : Int), t ≤ N ∧ x = a + (t : Int) ∧ iv = .int .i64 x ∧ Hid (wr.ownsRow w.heap.size 3 1 q (P t).length (cellsZ (P t))) ∧ Hid (Kp w wr)) (fun _ iv _ => (b + 1 - intOf iv).toNat)
  case atStart => exact ⟨0, a, Nat.zero_le _, by simp, rfl, Lib.hid (by rw [N0.out]; exact World.ownsRow_nil _ _ _ _), Lib.hid (Kp.refl _)⟩
  case round =>
    obtain ⟨t, x, ht, hx, rfl, OW, J⟩ := hrel
    have ow := OW.out
    obtain ⟨qa, qc, rfl⟩ := own_sliceZ ow
    clear ow
    obtain ⟨wi, hwi⟩ : ∃ x, x = wr := ⟨_, rfl⟩
    subst hwi
    by_cases hxx : x ≤ b
    · have q1 : decide (x ≤ b) = true := decide_eq_true hxx
      have C2 := Lib.hid (C.out x wi (by omega) (by omega))
      have nx := NX.out t
      have nl := NL.out t
      rw [← hx] at nx
      have NXH := Lib.hid nx
      have t1 : t + 1 ≤ N := by have := HB.out; omega
      have xb : 0 ≤ x ∧ x ≤ 10000 := by omega
      have HX := Lib.hid hx
      have H9 := Lib.hid hxx
      generalize matchM s x = mb at *
      clear hx hxx nx
      cases mb with
      | false =>
        have O2 := Lib.hid (show wi.ownsRow w.heap.size 3 1 (.slice qa (P t).length qc) (P (t + 1)).length (cellsZ (P (t + 1))) by rw [NXH.out, if_neg (by decide), List.append_nil]; exact OW.out)
        clear NXH
        go_wp2_with fail
        refine C2.out.mono ?_
        rintro e w' ⟨rfl, rfl⟩
        go_wp2
        go_roundw
        case rel => exact ⟨t + 1, x + 1, t1, by have := HX.out; omega, by go_num, O2, J⟩
        case measure => have := H9.out; simp [intOf]; omega
      | true =>
        have Q4 := Lib.hid (own_kp OW.out (Kp.alloc wi (.cells #[.int .i64 x] 3)))
        have K4 := Lib.hid (J.out.trans (Kp.alloc wi (.cells #[.int .i64 x] 3)))
        go_wp2_with fail
        refine C2.out.mono ?_
        rintro e w' ⟨rfl, rfl⟩
        go_wp2_with (at_builtin; refine wpList_app rfl (.tmp 18) (.tmp 20) 67 rfl w.heap.size 3 i0 (.int .i64 0) 1 8 Tryz.underlying67 hi hz0 hz1 hz2 rfl (by decide) _ _ _ rfl Q4.out _ _ _ rfl (one_srcZ wi _ _) (by rfl) (by intro u hu; simp at hu; rcases hu with rfl; rfl) (by unfold maxLen; omega) (by omega) K4.out.size ?_; intro v5 w5 own5 grow5 _; have K5 := Lib.hid (K4.out.grown grow5 (fun j hj => (Q4.out.lt j hj).1)); have O5 := Lib.hid own5; clear own5 grow5)
        have O6 := Lib.hid (show w5.ownsRow w.heap.size 3 1 v5 (P (t + 1)).length (cellsZ (P (t + 1))) by rw [NXH.out, if_pos trivial]; exact own_snocZ O5.out)
        go_wp2
        go_roundw
        case rel => exact ⟨t + 1, x + 1, t1, by have := HX.out; omega, by go_num, O6, K5⟩
        case measure => have := H9.out; simp [intOf]; omega
    · have q1 : decide (x ≤ b) = false := decide_eq_false hxx
      obtain rfl : t = N := by have := HB.out; omega
      have O2 := Lib.hid (show wi.ownsRow w.heap.size 3 1 (.slice qa (P t).length qc) X.length (cellsZ X) by have h := OW.out; rw [NA.out] at h ⊢; exact h)
      rw [NA.out] at O2 ⊢
      go_wp2
      go_ret
      exact ⟨_, rfl, O2.out, J.out⟩
theorem putI_nil (n : Int) : putI [] n = [(n, n)] := if_pos rfl
theorem putI_on {bb : List R} {q1 q2 n : Int} (h : q2 = n - 1) : putI (bb ++ [(q1, q2)]) n = bb ++ [(q1, n)] := by
  unfold putI
  rw [if_neg (by simp), if_pos (by simp [h])]
  simp
theorem putI_new {bb : List R} {q1 q2 n : Int} (h : q2 ≠ n - 1) : putI (bb ++ [(q1, q2)]) n = (bb ++ [(q1, q2)]) ++ [(n, n)] := by
  unfold putI
  rw [if_neg (by simp), if_neg (by simpa using h)]
theorem cells_two (bb : List R) (q1 q2 x : Int) : ((cellsR (bb ++ [(q1, q2)])).set (bb.length * 2) (.int .i64 q1)).set (bb.length * 2 + 1) (.int .i64 x) = cellsR (bb ++ [(q1, x)]) := by
  rw [cellsR_append, cellsR_append, List.set_append_right _ _ (by rw [cellsR_length]; omega), cellsR_length, List.set_append_right _ _ (by rw [cellsR_length]; omega), cellsR_length]
  congr 1
  rw [show bb.length * 2 - bb.length * 2 = 0 by omega, show bb.length * 2 + 1 - bb.length * 2 = 1 by omega]
  rfl
set_option maxHeartbeats 4000000 in
set_option maxRecDepth 100000 in
theorem rput8_any (base : Nat) (v : Value) (l : List R) (n : Int) (w : World) (hb : base ≤ w.heap.size) (ho : w.ownsRow base 37 2 v l.length (cellsR l)) (hl : l.length ≤ 10000000) (n1 : -2000000000 ≤ n) (n2 : n ≤ 2000000000) :
    Calls Tryz.prog 46 #[v, .int .i64 n] w fun e w' => ∃ v', e = .returned v' ∧ w'.ownsRow base 37 2 v' (putI l n).length (cellsR (putI l n)) ∧ Below base w w' := by
  obtain ⟨i0, hi, hz0, hz1, hz2⟩ := info_parts infoR
  rcases snoc_cases l with rfl | ⟨bb, ⟨q1, q2⟩, rfl⟩
  · obtain ⟨ad, cp, rfl⟩ := own_slice ho
    simp only [List.length_nil] at ho
    rw [putI_nil]
    have Q4 := Lib.hid (own_kp ho (Kp.alloc w (.cells #[.int .i64 n, .int .i64 n] 37)))
    have K4 := Lib.hid (show Below base w (w.alloc (.cells #[.int .i64 n, .int .i64 n] 37)) from Below.mono (Kp.alloc _ _) hb)
    clear ho
    go_enter Tryz.func46, Tryz.ntmps46
    go_wp2_with (at_builtin; refine wpList_app rfl (.tmp 32) (.tmp 36) 28 rfl base 37 i0 (.agg #[.int .i64 0, .int .i64 0]) 2 16 Tryz.underlying28 hi hz0 hz1 hz2 rfl (by decide) _ _ _ rfl Q4.out _ _ _ rfl (one_src w _ _ _) (by rfl) (by intro u hu; simp at hu; rcases hu with rfl | rfl <;> rfl) (by unfold maxLen; omega) (by omega) (by simp; omega) ?_; intro v5 w5 own5 grow5 _; have K5 := Lib.hid (Below.grown K4.out grow5 (by simp; omega) (fun j hj => (Q4.out.lt j hj).1)); have O5 := Lib.hid own5; clear own5 grow5)
    go_wp2
    go_ret
    exact ⟨_, rfl, O5.out, K5.out⟩
  · obtain ⟨gb, cp, rfl, gb1, gl⟩ := World.ownsRow.form ho (by simp)
    have cq : w.cell? ⟨gb, bb.length * 2 + 1, none⟩ = some (.int .i64 q2) := by
      rw [ho.cellAt _ (by simp; omega), cellsR_append, List.getElem?_append_right (by rw [cellsR_length]; omega), cellsR_length]
      simp [cellsR]
    have cq0 : w.cell? ⟨gb, bb.length * 2, none⟩ = some (.int .i64 q1) := by
      rw [ho.cellAt _ (by simp), cellsR_append, List.getElem?_append_right (by rw [cellsR_length]; omega), cellsR_length]
      simp [cellsR]
    have fz := ho.frozenAt (bb.length * 2 + 1)
    have fz0 := ho.frozenAt (bb.length * 2)
    rw [List.length_append, List.length_singleton] at hl
    have H := Lib.hid ho
    clear ho
    obtain ⟨m, em⟩ : ∃ m, bb.length = m := ⟨_, rfl⟩
    rw [em] at cq cq0 fz fz0 hl
    have EM := Lib.hid em
    have t0 : decide ((m : Int) ≥ 0) = true := decide_eq_true (by omega)
    have t1 : decide ((0 : Int) ≤ (m : Int)) = true := decide_eq_true (by omega)
    have t2 : (m : Int) < (m : Int) + 1 := by omega
    have t3 : (0 : Int) ≤ (m : Int) := by omega
    have t4 : m < m + 1 := by omega
    have t5 : IntKind.i64.wrap (m : Int) = (m : Int) := IntWalk.i64_in _ (by omega)
    by_cases c : q2 = n - 1
    · have g2 : (q2 == n - 1) = true := by simp [c]
      rw [putI_on c]
      clear c
      simp only [List.length_append, List.length_singleton, em] at H ⊢
      clear em
      go_enter Tryz.func46, Tryz.ntmps46
      go_wp2
      go_ret
      have s1 := (World.ownsRow.stored H.out (m * 2) (.int .i64 q1)).1
      have s2 := (World.ownsRow.stored s1 (m * 2 + 1) (.int .i64 n)).1
      rw [← EM.out, cells_two, EM.out] at s2
      exact ⟨_, rfl, s2, Below.setCell (p := ⟨gb, m * 2 + 1, none⟩) (Below.setCell (p := ⟨gb, m * 2, none⟩) (Below.refl _ _) gb1 _) gb1 _⟩
    · have g2 : (q2 == n - 1) = false := by simp [c]
      rw [putI_new c]
      clear c
      have Q4 := Lib.hid (own_kp H.out (Kp.alloc w (.cells #[.int .i64 n, .int .i64 n] 37)))
      have K4 := Lib.hid (show Below base w (w.alloc (.cells #[.int .i64 n, .int .i64 n] 37)) from Below.mono (Kp.alloc _ _) hb)
      simp only [List.length_append, List.length_singleton, em] at Q4 ⊢
      clear em H
      go_enter Tryz.func46, Tryz.ntmps46
      go_wp2_with (at_builtin; refine wpList_app rfl (.tmp 32) (.tmp 36) 28 rfl base 37 i0 (.agg #[.int .i64 0, .int .i64 0]) 2 16 Tryz.underlying28 hi hz0 hz1 hz2 rfl (by decide) _ _ _ rfl Q4.out _ _ _ rfl (one_src w _ _ _) (by rfl) (by intro u hu; simp at hu; rcases hu with rfl | rfl <;> rfl) (by unfold maxLen; omega) (by omega) (by simp; omega) ?_; intro v5 w5 own5 grow5 _; have K5 := Lib.hid (Below.grown K4.out grow5 (by simp; omega) (fun j hj => (Q4.out.lt j hj).1)); have O5 := Lib.hid own5; clear own5 grow5)
      go_wp2
      go_ret
      exact ⟨_, rfl, by rw [cellsR_append]; exact O5.out, K5.out⟩
end Go.Proofs.YtinpglfclbnhlaaGreatDoor
