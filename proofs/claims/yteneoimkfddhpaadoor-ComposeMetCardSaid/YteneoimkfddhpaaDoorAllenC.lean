/-
  Contracts of package allen: lists of relations.
-/
import Derived.Test.YteneoimkfddhpaaDoorAllenB
import Derived.OwnWalk
import Derived.Deep.DeepMust
namespace Go.Proofs.YteneoimkfddhpaaDoor
open Go.RowKit
set_option linter.unusedVariables false
/-- the relations of a mask below k, rising -/
def li (m : Int) (k : Nat) : List Int := List.map (fun (r : Nat) => (r : Int)) ((List.range k).filter fun (r : Nat) => bitB m r)
def cellsI (l : List Int) : List Value := l.map (Value.int .i64)
theorem li_yes (m : Int) (k : Nat) (h : bitB m k = true) : li m (k + 1) = li m k ++ [(k : Int)] := by unfold li; rw [List.range_succ]; simp [h]
theorem li_no (m : Int) (k : Nat) (h : bitB m k = false) : li m (k + 1) = li m k := by unfold li; rw [List.range_succ]; simp [h]
theorem li_len (m : Int) (k : Nat) : (li m k).length ≤ k := by unfold li; have := List.length_filter_le (fun (r : Nat) => bitB m r) (List.range k); simpa using this
theorem cell_one_new (w : World) (a : Value) (t : TypeId) : ∀ j u, [a][j]? = some u → (w.alloc (.cells #[a] t)).cell? ((⟨w.heap.size, 0, none⟩ : Addr).add j) = some u := by
  intro j u hu
  rcases j with _ | j
  · simp at hu
    subst hu
    simp [Addr.add]
  · simp at hu
theorem infoI : (Tryd.prog.info? 3).map (fun i => (i.zero, i.size, i.bytes)) = some (some (.int .i64 0), 1, 8) := by kernel_rfl
theorem kp_grown1 {w wr w1 : World} {v : Value} {o1 : Obj} (k : Kp w wr) (g : (wr.alloc o1).grownBy w1 v.ownBlock) (h : ∀ j, v.ownBlock = some j → w.heap.size ≤ j) : Kp w w1 := by
  have s : w.heap.size ≤ wr.heap.size := k.size
  have k2 : Below w.heap.size w (wr.alloc o1) := Below.alloc k s o1
  exact k2.grown g (by simp; omega) h
set_option maxHeartbeats 2000000 in
theorem list_any (m : Int) (w : World) :
    Calls Tryd.prog 26 #[.int .i64 m] w fun e w' => ∃ v : Value, e = .returned v ∧ w'.ownsRow w.heap.size 3 1 v (li m 13).length (cellsI (li m 13)) ∧ Kp w w' := by
  obtain ⟨i0, hi, hz0, hz1, hz2⟩ := info_parts infoI
  go_enter Tryd.func26, Tryd.ntmps26
  go_wp2
  go_loopw [3, 5] (fun v i wr => ∃ k : Nat, k ≤ 13 ∧ i = .int .i64 k ∧ wr.ownsRow w.heap.size 3 1 v (li m k).length (cellsI (li m k)) ∧ Kp w wr) (fun _ i _ => 13 - (intOf i).toNat)
  case atStart => exact ⟨0, by omega, rfl, World.ownsRow_nil _ _ _ _, Kp.refl _⟩
  case round =>
    obtain ⟨k, hk, rfl, hown, k1⟩ := hrel
    have K1 := Lib.hid k1
    have hsz := k1.size
    clear k1
    by_cases hlt : k < 13
    · have C := Lib.hid (fun w => has_any m k w (by omega))
      have al := li_len m k
      rcases Bool.eq_false_or_eq_true (bitB m k) with h | h
      · have S := Lib.hid (li_yes m k h)
        rw [h] at C
        clear h
        go_wp2_with fail; refine ((C.out _)).mono ?_; rintro e w' ⟨rfl, rfl⟩
        go_wp2_with (at_builtin; go_must (refine wpList_append_own _ rfl (.tmp 11) (.tmp 13) 32 rfl w.heap.size 3 i0 (.int .i64 0) 1 8 Tryd.underlying32 hi hz0 hz1 hz2 rfl (by decide) _ _ _ rfl (hown.alloc _) ⟨wr.heap.size, 0, none⟩ 1 1 [.int .i64 k] rfl rfl (cell_one_new _ _ _) (by intro u hu; simp at hu; subst hu; rfl) (by unfold maxLen; omega) (by omega) (by simp; omega) ?_); intro v1 w1 hown1 hgrow1 hnil1)
        go_roundw
        case rel => exact ⟨k + 1, by omega, by go_num, by rw [S.out, cellsI, List.map_append, List.length_append]; exact hown1, kp_grown1 K1.out hgrow1 (fun j hj => (hown.lt j hj).1)⟩
        case measure => simp [intOf]; omega
      · have S := Lib.hid (li_no m k h)
        rw [h] at C
        clear h
        go_wp2_with fail; refine ((C.out _)).mono ?_; rintro e w' ⟨rfl, rfl⟩
        go_wp2
        go_roundw
        case rel => exact ⟨k + 1, by omega, by go_num, by rw [S.out]; exact hown, K1.out⟩
        case measure => simp [intOf]; omega
    · obtain rfl : k = 13 := by omega
      go_wp2
      go_ret
      exact ⟨_, rfl, hown, K1.out⟩
end Go.Proofs.YteneoimkfddhpaaDoor
