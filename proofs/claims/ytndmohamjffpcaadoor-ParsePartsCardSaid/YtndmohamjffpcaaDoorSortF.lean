/-
  The sort of runs: the choice of the pivot.
-/
import Derived.Test.YtndmohamjffpcaaDoorSortE
namespace Go.Proofs.YtndmohamjffpcaaDoor
open Go.RowKit Go.Sort Go.Shelf
set_option linter.unusedVariables false
set_option linter.unusedSimpArgs false
theorem adj_any {w0 : World} {b off n : Nat} (R0 : RowR w0 b off n) (cap : Nat) (d : Array R) (sb s x : Nat) (w : World) (hW : CW w0 b off d sb s w) (hs : d.size = n) (h0 : 1 ≤ x) (hx : x + 1 < n) (hsm : s ≤ 500) :
    Calls Tryd.prog 96 #[.slice (some ⟨b, off, none⟩) n cap, .int .i64 x, .pointer (some ⟨sb, 0, none⟩), fvR] w fun e w' =>
      e = .returned (.int .i64 (Sort.medianAdjacent ltR d x s).1) ∧ CW w0 b off d sb (Sort.medianAdjacent ltR d x s).2 w' := by
  have C := fun w hW => median_any R0 cap d sb s (x - 1) x (x + 1) w hW hs (by omega) (by omega) hx hsm
  have hn := R0.hn
  unfold Sort.medianAdjacent
  generalize Sort.median ltR d (x - 1) x (x + 1) s = m at C ⊢
  obtain ⟨p, rfl⟩ : ∃ p, x = p + 1 := ⟨x - 1, by omega⟩
  simp only [Nat.add_sub_cancel] at C
  have C := Lib.hid C
  have HW := Lib.hid hW
  clear hW
  have wp1 : IntKind.i64.wrap (p : Int) = (p : Int) := by rw [IntKind.wrap_i64]; omega
  unfold fvR at C ⊢
  go_enter Tryd.func96, Tryd.ntmps96
  go_wp2_with (go_at_call 97; refine (C.out _ HW.out).mono ?_; rintro e w' ⟨rfl, h1⟩)
  go_ret
  exact ⟨rfl, h1⟩
theorem median_le (d : Array R) (x y z s n : Nat) (hx : x < n) (hy : y < n) (hz : z < n) : (Sort.median ltR d x y z s).1 < n ∧ (Sort.median ltR d x y z s).2 ≤ s + 3 := by
  have O : ∀ (x y s : Nat), x < n → y < n → (order2 ltR d x y s).1 < n ∧ (order2 ltR d x y s).2.1 < n ∧ (order2 ltR d x y s).2.2 ≤ s + 1 := by
    intro x y s hx hy
    unfold order2
    split
    · exact ⟨hy, hx, by simp⟩
    · exact ⟨hx, hy, by simp⟩
  unfold Sort.median
  have B1 := O x y s hx hy
  have B2 := O (order2 ltR d x y s).2.1 z (order2 ltR d x y s).2.2 B1.2.1 hz
  have B3 := O (order2 ltR d x y s).1 (order2 ltR d (order2 ltR d x y s).2.1 z (order2 ltR d x y s).2.2).1 (order2 ltR d (order2 ltR d x y s).2.1 z (order2 ltR d x y s).2.2).2.2 B1.1 B2.1
  dsimp only
  omega
theorem adj_le (d : Array R) (x s n : Nat) (h0 : 1 ≤ x) (hx : x + 1 < n) : (Sort.medianAdjacent ltR d x s).1 < n ∧ (Sort.medianAdjacent ltR d x s).2 ≤ s + 3 := by
  unfold Sort.medianAdjacent
  exact median_le d (x - 1) x (x + 1) s n (by omega) (by omega) hx
def hintI : Hint → Int | .unknown => 0 | .increasing => 1 | .decreasing => 2
set_option maxHeartbeats 1000000 in
theorem pivot_low {w0 : World} {b off n : Nat} (R0 : RowR w0 b off n) (cap : Nat) (d : Array R) (a l : Nat) (w : World) (hW : SW w0 b off d w) (hs : d.size = n) (hl : a + l ≤ n) (h12 : 12 < l) (h50 : l < 50) :
    Calls Tryd.prog 85 #[.slice (some ⟨b, off, none⟩) n cap, .int .i64 a, .int .i64 ((a : Int) + l), fvR] w fun e w' =>
      e = .returned (.tuple #[.int .i64 (Sort.choosePivot ltR d a (a + l)).1, .int .i64 (hintI (Sort.choosePivot ltR d a (a + l)).2)]) ∧ SW w0 b off d w' := by
  have hn := R0.hn
  have ws : IntKind.i64.wrap ((a : Int) + l - a) = l := by rw [IntKind.wrap_i64]; omega
  have CS : CW w0 b off d w.heap.size 0 (w.alloc (.cells #[.int .i64 0] 3)) := CntK.start (enc := encR) (k := 2) hW 3
  have g8 : decide ((8 : Int) ≤ l) = true := decide_eq_true (by omega)
  have c1 : ((a + l / 4 : Nat) : Int) = (a : Int) + (l : Int) / 4 := by omega
  have c2 : ((a + l / 4 * 2 : Nat) : Int) = (a : Int) + (l : Int) / 4 * 2 := by omega
  have c3 : ((a + l / 4 * 3 : Nat) : Int) = (a : Int) + (l : Int) / 4 * 3 := by omega
  have g50 : decide ((50 : Int) ≤ l) = false := decide_eq_false (by omega)
  have E : Sort.choosePivot ltR d a (a + l) = ((Sort.median ltR d (a + l / 4) (a + l / 4 * 2) (a + l / 4 * 3) 0).1, if (Sort.median ltR d (a + l / 4) (a + l / 4 * 2) (a + l / 4 * 3) 0).2 = 0 then .increasing else if (Sort.median ltR d (a + l / 4) (a + l / 4 * 2) (a + l / 4 * 3) 0).2 = 12 then .decreasing else .unknown) := by
    unfold Sort.choosePivot
    rw [Nat.add_sub_cancel_left]
    simp only [ge_iff_le, if_pos (show 8 ≤ l by omega), if_neg (show ¬ 50 ≤ l by omega), Nat.mul_one]
  rw [E]
  have C := median_any R0 cap d w.heap.size 0 (a + l / 4) (a + l / 4 * 2) (a + l / 4 * 3) _ CS hs (by omega) (by omega) (by omega) (by omega)
  rw [c1, c2, c3] at C
  generalize Sort.median ltR d (a + l / 4) (a + l / 4 * 2) (a + l / 4 * 3) 0 = m at C ⊢
  obtain ⟨mi, sw⟩ := m
  dsimp only at C ⊢
  clear E CS c1 c2 c3 hW
  have C := Lib.hid C
  unfold fvR at C ⊢
  go_enter Tryd.func85, Tryd.ntmps85
  go_wp2_with fail
  refine (C.out).mono ?_
  rintro e w1 ⟨rfl, h⟩
  have H := Lib.hid h
  clear h
  have mark := trivial
  obtain ⟨_, f1, f2, f3, f4⟩ := H.out
  rcases hs0 : decide (sw = 0) with _ | _
  · have n0 : ¬ sw = 0 := of_decide_eq_false hs0
    have q0 : decide ((sw : Int) = 0) = false := decide_eq_false (by omega)
    have q0' : ((sw : Int) == 0) = false := by simp; omega
    rcases hs1 : decide (sw = 12) with _ | _
    · have n1 : ¬ sw = 12 := of_decide_eq_false hs1
      have q1 : decide ((sw : Int) = 12) = false := decide_eq_false (by omega)
      have q1' : ((sw : Int) == 12) = false := by simp; omega
      go_wp2
      (try simp only [Exit.inBlock, Exit.then]); refine bodyPost_ret (results_tmp2 rfl _ _ _) rfl ?_
      refine ⟨?_, H.out.1⟩
      simp only [n0, n1, if_false, hintI, Act.tmps]; rfl
    · have n1 : sw = 12 := of_decide_eq_true hs1
      have q1 : decide ((sw : Int) = 12) = true := decide_eq_true (by omega)
      have q1' : ((sw : Int) == 12) = true := by simp; omega
      go_wp2
      (try simp only [Exit.inBlock, Exit.then]); refine bodyPost_ret (results_tmp2 rfl _ _ _) rfl ?_
      refine ⟨?_, H.out.1⟩
      simp only [n0, n1, if_false, if_true, hintI, Act.tmps]; rfl
  · have n0 : sw = 0 := of_decide_eq_true hs0
    have q0 : decide ((sw : Int) = 0) = true := decide_eq_true (by omega)
    have q0' : ((sw : Int) == 0) = true := by simp; omega
    go_wp2
    (try simp only [Exit.inBlock, Exit.then]); refine bodyPost_ret (results_tmp2 rfl _ _ _) rfl ?_
    refine ⟨?_, H.out.1⟩
    simp only [n0, if_true, hintI, Act.tmps]; rfl
set_option maxHeartbeats 1000000 in
theorem pivot_high {w0 : World} {b off n : Nat} (R0 : RowR w0 b off n) (cap : Nat) (d : Array R) (a l : Nat) (w : World) (hW : SW w0 b off d w) (hs : d.size = n) (hl : a + l ≤ n) (h12 : 12 < l) (h50 : 50 ≤ l) :
    Calls Tryd.prog 85 #[.slice (some ⟨b, off, none⟩) n cap, .int .i64 a, .int .i64 ((a : Int) + l), fvR] w fun e w' =>
      e = .returned (.tuple #[.int .i64 (Sort.choosePivot ltR d a (a + l)).1, .int .i64 (hintI (Sort.choosePivot ltR d a (a + l)).2)]) ∧ SW w0 b off d w' := by
  have hn := R0.hn
  have ws : IntKind.i64.wrap ((a : Int) + l - a) = l := by rw [IntKind.wrap_i64]; omega
  have CS : CW w0 b off d w.heap.size 0 (w.alloc (.cells #[.int .i64 0] 3)) := CntK.start (enc := encR) (k := 2) hW 3
  have g8 : decide ((8 : Int) ≤ l) = true := decide_eq_true (by omega)
  have c1 : ((a + l / 4 : Nat) : Int) = (a : Int) + (l : Int) / 4 := by omega
  have c2 : ((a + l / 4 * 2 : Nat) : Int) = (a : Int) + (l : Int) / 4 * 2 := by omega
  have c3 : ((a + l / 4 * 3 : Nat) : Int) = (a : Int) + (l : Int) / 4 * 3 := by omega
  have g50 : decide ((50 : Int) ≤ l) = true := decide_eq_true (by omega)
  have A1 := adj_le d (a + l / 4) 0 n (by omega) (by omega)
  have D1 := adj_any R0 cap d w.heap.size 0 (a + l / 4) _ CS hs (by omega) (by omega) (by omega)
  have E : Sort.choosePivot ltR d a (a + l) = (
    let ri := Sort.medianAdjacent ltR d (a + l / 4) 0
    let rj := Sort.medianAdjacent ltR d (a + l / 4 * 2) ri.2
    let rk := Sort.medianAdjacent ltR d (a + l / 4 * 3) rj.2
    let m := Sort.median ltR d ri.1 rj.1 rk.1 rk.2
    (m.1, if m.2 = 0 then Hint.increasing else if m.2 = 12 then .decreasing else .unknown)) := by
    unfold Sort.choosePivot
    rw [Nat.add_sub_cancel_left]
    simp only [ge_iff_le, if_pos (show 8 ≤ l by omega), if_pos h50, Nat.mul_one]
  rw [E]
  clear E
  dsimp only
  generalize Sort.medianAdjacent ltR d (a + l / 4) 0 = r1 at A1 D1 ⊢
  obtain ⟨i1, s1⟩ := r1
  dsimp only at A1 D1 ⊢
  have A2 := adj_le d (a + l / 4 * 2) s1 n (by omega) (by omega)
  have D2 := fun sb w hW => adj_any R0 cap d sb s1 (a + l / 4 * 2) w hW hs (by omega) (by omega) (by omega)
  generalize Sort.medianAdjacent ltR d (a + l / 4 * 2) s1 = r2 at A2 D2 ⊢
  obtain ⟨i2, s2⟩ := r2
  dsimp only at A2 D2 ⊢
  have A3 := adj_le d (a + l / 4 * 3) s2 n (by omega) (by omega)
  have D3 := fun sb w hW => adj_any R0 cap d sb s2 (a + l / 4 * 3) w hW hs (by omega) (by omega) (by omega)
  generalize Sort.medianAdjacent ltR d (a + l / 4 * 3) s2 = r3 at A3 D3 ⊢
  obtain ⟨i3, s3⟩ := r3
  dsimp only at A3 D3 ⊢
  have D4 := fun sb w hW => median_any R0 cap d sb s3 i1 i2 i3 w hW hs (by omega) (by omega) (by omega) (by omega)
  generalize Sort.median ltR d i1 i2 i3 s3 = m at D4 ⊢
  obtain ⟨mi, sw⟩ := m
  dsimp only at D4 ⊢
  rw [c1] at D1
  rw [c2] at D2
  rw [c3] at D3
  clear CS c1 c2 c3 hW A1 A2 A3
  have D1 := Lib.hid D1
  have D2 := Lib.hid D2
  have D3 := Lib.hid D3
  have D4 := Lib.hid D4
  unfold fvR at D1 D2 D3 D4 ⊢
  go_enter Tryd.func85, Tryd.ntmps85
  go_wp2_with fail
  refine (D1.out).mono ?_
  rintro e w1 ⟨rfl, h⟩
  have H1 := Lib.hid h
  clear h
  go_wp2_with fail
  refine (D2.out _ _ H1.out).mono ?_
  rintro e w2 ⟨rfl, h⟩
  have H2 := Lib.hid h
  clear h
  go_wp2_with fail
  refine (D3.out _ _ H2.out).mono ?_
  rintro e w3 ⟨rfl, h⟩
  have H3 := Lib.hid h
  clear h
  go_wp2_with fail
  refine (D4.out _ _ H3.out).mono ?_
  rintro e w4 ⟨rfl, h⟩
  have H := Lib.hid h
  clear h
  have mark := trivial
  obtain ⟨_, f1, f2, f3, f4⟩ := H.out
  rcases hs0 : decide (sw = 0) with _ | _
  · have n0 : ¬ sw = 0 := of_decide_eq_false hs0
    have q0 : decide ((sw : Int) = 0) = false := decide_eq_false (by omega)
    have q0' : ((sw : Int) == 0) = false := by simp; omega
    rcases hs1 : decide (sw = 12) with _ | _
    · have n1 : ¬ sw = 12 := of_decide_eq_false hs1
      have q1 : decide ((sw : Int) = 12) = false := decide_eq_false (by omega)
      have q1' : ((sw : Int) == 12) = false := by simp; omega
      go_wp2
      (try simp only [Exit.inBlock, Exit.then]); refine bodyPost_ret (results_tmp2 rfl _ _ _) rfl ?_
      refine ⟨?_, H.out.1⟩
      simp only [n0, n1, if_false, hintI, Act.tmps]; rfl
    · have n1 : sw = 12 := of_decide_eq_true hs1
      have q1 : decide ((sw : Int) = 12) = true := decide_eq_true (by omega)
      have q1' : ((sw : Int) == 12) = true := by simp; omega
      go_wp2
      (try simp only [Exit.inBlock, Exit.then]); refine bodyPost_ret (results_tmp2 rfl _ _ _) rfl ?_
      refine ⟨?_, H.out.1⟩
      simp only [n0, n1, if_false, if_true, hintI, Act.tmps]; rfl
  · have n0 : sw = 0 := of_decide_eq_true hs0
    have q0 : decide ((sw : Int) = 0) = true := decide_eq_true (by omega)
    have q0' : ((sw : Int) == 0) = true := by simp; omega
    go_wp2
    (try simp only [Exit.inBlock, Exit.then]); refine bodyPost_ret (results_tmp2 rfl _ _ _) rfl ?_
    refine ⟨?_, H.out.1⟩
    simp only [n0, if_true, hintI, Act.tmps]; rfl
theorem pivot_any {w0 : World} {b off n : Nat} (R0 : RowR w0 b off n) (cap : Nat) (d : Array R) (a l : Nat) (w : World) (hW : SW w0 b off d w) (hs : d.size = n) (hl : a + l ≤ n) (h12 : 12 < l) :
    Calls Tryd.prog 85 #[.slice (some ⟨b, off, none⟩) n cap, .int .i64 a, .int .i64 ((a : Int) + l), fvR] w fun e w' =>
      e = .returned (.tuple #[.int .i64 (Sort.choosePivot ltR d a (a + l)).1, .int .i64 (hintI (Sort.choosePivot ltR d a (a + l)).2)]) ∧ SW w0 b off d w' := by
  by_cases h : l < 50
  · exact pivot_low R0 cap d a l w hW hs hl h12 h
  · exact pivot_high R0 cap d a l w hW hs hl h12 (by omega)
end Go.Proofs.YtndmohamjffpcaaDoor
