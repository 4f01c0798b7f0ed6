/-
  Layer 4: the document's example (awake), and the walk of RunsMake.
-/
import Derived.Test.Ytgaadakhkjfbnaa4D
import Derived.Test.Ytgaadakhkjfbnaa4E
namespace Go.Proofs.Ytgaadakhkjfbnaa
open Go.RowKit
set_option linter.unusedVariables false
set_option linter.unusedSimpArgs false
theorem lit_at (w : World) (l : List R) (cs : Array Value) (t : TypeId) (hc : cs.toList = cellsR l) (hn : l.length ≤ maxLen) : RunsAt (w.alloc (.cells cs t)) (.slice (some ⟨w.heap.size, 0, none⟩) l.length l.length) l := by
  refine .inr ⟨w.heap.size, 0, l.length, rfl, Nat.le_refl _, hn, fun i hi => ?_⟩
  have c : ∀ j, j < l.length * 2 → (w.alloc (.cells cs t)).cell? ⟨w.heap.size, j, none⟩ = (cellsR l)[j]? := by
    intro j hj
    rw [← hc]
    have : j < cs.size := by rw [← Array.length_toList, hc, cellsR_length]; exact hj
    unfold World.cell?
    rw [heap_alloc_new]
    simp [this]
  rw [Nat.zero_add, c _ (by omega), c _ (by omega), cells_idx l _ (by omega), cells_idx l _ (by omega)]
  have e1 : i * 2 / 2 = i := by omega
  have e2 : (i * 2 + 1) / 2 = i := by omega
  have e3 : i * 2 % 2 = 0 := by omega
  have e4 : ¬ (i * 2 + 1) % 2 = 0 := by omega
  rw [e1, e2, if_pos e3, if_neg e4]
  exact ⟨rfl, rfl⟩
theorem ilit_at (w : World) (l : List Int) (cs : Array Value) (t : TypeId) (hc : cs.toList = l.map (Value.int .i64)) (hn : l.length ≤ maxLen) : IntsAt (w.alloc (.cells cs t)) (.slice (some ⟨w.heap.size, 0, none⟩) l.length l.length) l := by
  refine .inr ⟨w.heap.size, 0, l.length, rfl, Nat.le_refl _, hn, fun i hi => ?_⟩
  have : i < cs.size := by rw [← Array.length_toList, hc]; simpa using hi
  rw [Nat.zero_add]
  have e : cs[i]? = (l.map (Value.int .i64))[i]? := by rw [← hc]; simp
  unfold World.cell?
  rw [heap_alloc_new]
  simp [e, hi, List.getD]
theorem sane_list {l : List R} (h : saneB l = true) : sane l := by unfold saneB at h; exact of_decide_eq_true h
set_option maxHeartbeats 4000000 in
set_option maxRecDepth 100000 in
theorem awake04 (w : World) : Calls Try.prog 21 #[] w fun e w' => e = .returned (.bool true) ∧ Kp w w' := by
  have n1 : nf [(5, 7), (1, 2), (3, 3)] = [(1, 3), (5, 7)] := by decide
  have n2 : nf (sing [3]) = [(3, 3)] := by decide
  have s1 : sane [((1, 3) : R), (5, 7)] := by decide
  have i1 : I64R [((1, 3) : R), (5, 7)] := ok_i64 (sane_ok s1)
  have h6 : hasB [(1, 3), (5, 7)] 6 = true := by decide
  have c6 : sumR [(1, 3), (5, 7)] = 6 := by decide
  have C0 := Lib.hid (fun w1 => make_any (.slice (some ⟨w.heap.size, 0, none⟩) 3 3) [(5, 7), (1, 2), (3, 3)] (w.alloc (.cells #[.int .i64 5, .int .i64 7, .int .i64 1, .int .i64 2, .int .i64 3, .int .i64 3] w1)) (lit_at w [(5, 7), (1, 2), (3, 3)] _ _ rfl (by decide)) (by intro r hr; simp at hr; rcases hr with rfl | rfl | rfl <;> decide) (by decide))
  rw [n1] at C0
  go_enter Try.func21, Try.ntmps21
  go_wp2_with fail
  refine (C0.out _).mono ?_
  rintro e w1 ⟨v1, rfl, own, k1⟩
  have RA := Lib.hid (runsAt_own own)
  obtain ⟨g, cp, rfl, gb, gl⟩ := World.ownsRow.form own (by decide)
  have a0 : w1.cell? ⟨g, 0, none⟩ = some (.int .i64 1) := by rw [own.cellAt 0 (by decide)]; rfl
  have a1 : w1.cell? ⟨g, 1, none⟩ = some (.int .i64 3) := by rw [own.cellAt 1 (by decide)]; rfl
  have a2 : w1.cell? ⟨g, 2, none⟩ = some (.int .i64 5) := by rw [own.cellAt 2 (by decide)]; rfl
  have a3 : w1.cell? ⟨g, 3, none⟩ = some (.int .i64 7) := by rw [own.cellAt 3 (by decide)]; rfl
  have K1 := Lib.hid ((Kp.alloc w _).trans k1)
  clear own k1 C0
  have C1 := Lib.hid (sane_any (.slice (some ⟨g, 0, none⟩) 2 cp) _ w1 RA.out i1)
  rw [saneB_yes s1] at C1
  have C2 := Lib.hid (fun w2 (k : Kp w1 w2) => has_of (some ⟨g, 0, none⟩) 2 cp [(1, 3), (5, 7)] 6 w2 (asS_sane _ _ w2 (RA.out.kp k) i1 s1) s1 (by decide) (by decide) (by decide))
  rw [h6] at C2
  have C3 := Lib.hid (fun w2 (k : Kp w1 w2) => count_of (.slice (some ⟨g, 0, none⟩) 2 cp) [(1, 3), (5, 7)] w2 (asS_sane _ _ w2 (RA.out.kp k) i1 s1) s1)
  rw [c6] at C3
  have C4 := Lib.hid (fun w2 t => of_any (.slice (some ⟨w2.heap.size, 0, none⟩) 1 1) [3] (w2.alloc (.cells #[.int .i64 3] t)) (ilit_at w2 [3] _ _ rfl (by decide)) (by intro n hn; simp at hn; subst hn; decide) (by decide))
  rw [n2] at C4
  go_wp2_with fail
  refine (C1.out).mono ?_
  rintro e w2 ⟨rfl, k2⟩
  have K2 := Lib.hid k2
  clear k2 C1
  go_wp2_with fail
  refine (C2.out _ K2.out).mono ?_
  rintro e w3 ⟨rfl, k3⟩
  have K3 := Lib.hid (K2.out.trans k3)
  clear k3 C2
  go_wp2_with fail
  refine (C3.out _ K3.out).mono ?_
  rintro e w4 ⟨rfl, k4⟩
  have K4 := Lib.hid (K3.out.trans k4)
  clear k4 C3
  go_wp2_with fail
  refine (C4.out _ _).mono ?_
  rintro e w5 ⟨v5, rfl, own5, k5⟩
  obtain ⟨g5, cp5, rfl, _, _⟩ := World.ownsRow.form own5 (by decide)
  have K5 := Lib.hid (K4.out.trans ((Kp.alloc _ _).trans k5))
  clear k5 own5 C4
  go_wp2
  go_ret
  exact ⟨rfl, K1.out.trans K5.out⟩
end Go.Proofs.Ytgaadakhkjfbnaa
