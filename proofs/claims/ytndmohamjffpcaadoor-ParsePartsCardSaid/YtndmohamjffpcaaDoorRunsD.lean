/-
  Contracts of package runs: joined.
-/
import Derived.Test.YtndmohamjffpcaaDoorRunsC
import Derived.Test.YtndmohamjffpcaaDoorRunsJ
import Derived.RegionTactic
import Derived.Deep.AppendLies
import Derived.ChangeAlike
namespace Go.Proofs.YtndmohamjffpcaaDoor
open Go.RowKit
set_option linter.unusedVariables false
theorem cells_set (bb : List R) (q1 q2 x : Int) : (cellsR (bb ++ [(q1, q2)])).set (bb.length * 2 + 1) (.int .i64 x) = cellsR (bb ++ [(q1, x)]) := by
  rw [cellsR_append, cellsR_append, List.set_append_right _ _ (by rw [cellsR_length]; omega), cellsR_length]
  congr 1
  rw [show bb.length * 2 + 1 - bb.length * 2 = 1 by omega]
  rfl
theorem own_drewN {w : World} {base : Nat} {e : TypeId} {size : Nat} {v : Value} {n : Nat} {xs : List Value} (h : w.ownsRow base e size v n xs) (k : Nat) : (w.drewN k).ownsRow base e size v n xs := h
theorem own_two {w : World} {base : Nat} {e : TypeId} {size : Nat} {v : Value} {n : Nat} {xs : List Value} (h : w.ownsRow base e size v n xs) (o1 : Obj) (k : Nat) (o2 : Obj) : (((w.alloc o1).drewN k).alloc o2).ownsRow base e size v n xs :=
  (own_drewN (h.alloc o1) k).alloc o2
theorem cell_two_last (w : World) (o : Obj) (k : Nat) (a b : Value) (t : TypeId) : ∀ j u, [a, b][j]? = some u → (((w.alloc o).drewN k).alloc (.cells #[a, b] t)).cell? ((⟨w.heap.size + 1, 0, none⟩ : Addr).add j) = some u := by
  have h := cell_two_new ((w.alloc o).drewN k) a b t
  simpa using h
theorem kp_grown_d {w wr w1 : World} {v : Value} {o1 o2 : Obj} {n : Nat} (k : Kp w wr) (g : (((wr.alloc o1).drewN n).alloc o2).grownBy w1 v.ownBlock) (h : ∀ j, v.ownBlock = some j → w.heap.size ≤ j) : Kp w w1 := by
  have s : w.heap.size ≤ wr.heap.size := k.size
  have k2 : Below w.heap.size w (((wr.alloc o1).drewN n).alloc o2) := (below_drewN (Below.alloc k s o1) n).alloc (by simp; omega) o2
  exact k2.grown g (by simp; omega) h
set_option maxHeartbeats 2000000 in
set_option maxRecDepth 100000 in
theorem joined_any (v : Value) (l : List R) (w : World) (hv : RunsAt w v l) (hl : ∀ r ∈ l, okR r) (hn : l.length ≤ 1000000) :
    Calls Tryd.prog 78 #[v] w fun e w' => ∃ v' : Value, e = .returned v' ∧ w'.ownsRow w.heap.size 118 2 v' (jn l).length (cellsR (jn l)) ∧ Kp w w' := by
  obtain ⟨i0, hi, hz0, hz1, hz2⟩ := info_parts infoR
  rcases hv with ⟨ad0, cp0, rfl, rfl⟩ | ⟨b, off, cap, rfl, hc, hm, hx⟩
  · go_enter Tryd.func78, Tryd.ntmps78
    go_wp2
    go_loopw [3, 9] (fun v i wr => i = .int .i64 0 ∧ v = .slice none 0 0 ∧ Kp w wr) (fun _ _ _ => 0)
    case atStart => exact ⟨rfl, rfl, Kp.refl _⟩
    case round =>
      obtain ⟨rfl, rfl, k1⟩ := hrel
      go_wp2
      go_ret
      exact ⟨_, rfl, World.ownsRow_nil _ _ _ _, k1⟩
  · have hm2 : l.length ≤ 9223372036854775807 := by unfold maxLen at hm; omega
    have HX := Lib.hid hx
    have HL := Lib.hid hl
    clear hx hl
    go_enter Tryd.func78, Tryd.ntmps78
    go_wp2
    go_loopw [3, 9] (fun v i wr => ∃ k : Nat, k ≤ l.length ∧ i = .int .i64 k ∧ wr.ownsRow w.heap.size 118 2 v (jn (l.take k)).length (cellsR (jn (l.take k))) ∧ Kp w wr) (fun _ i _ => l.length - (intOf i).toNat)
    case atStart => exact ⟨0, Nat.zero_le _, rfl, World.ownsRow_nil _ _ _ _, Kp.refl _⟩
    case round =>
      obtain ⟨k, hk, rfl, hown, k1⟩ := hrel
      have K1 := Lib.hid k1
      have hsz := k1.size
      clear k1
      by_cases hlt : k < l.length
      · obtain ⟨c1, c2⟩ := HX.out k hlt
        have d1 := (Below.cell (p := ⟨b, off + k * 2, none⟩) K1.out (World.block_lt_of_cell? _ _ c1)).trans c1
        have d2 := (Below.cell (p := ⟨b, off + k * 2 + 1, none⟩) K1.out (World.block_lt_of_cell? _ _ c2)).trans c2
        clear c1 c2
        have mem : at_ l k ∈ l := by
          have : at_ l k = l[k] := by unfold at_; simp [List.getD, hlt]
          rw [this]; exact List.getElem_mem hlt
        obtain ⟨o1, o2, o3⟩ := HL.out _ mem
        have S := Lib.hid (show jn (l.take (k + 1)) = jstep (jn (l.take k)) (at_ l k) by rw [take_at l k hlt, jn_snoc])
        have al := jn_len (l.take k)
        have tl : (l.take k).length ≤ k := List.length_take_le _ _
        have al2 : (jn (l.take k)).length ≤ 1000000 := by omega
        obtain ⟨lo, hi', ee⟩ : ∃ x y, at_ l k = (x, y) := ⟨_, _, rfl⟩
        rw [ee] at d1 d2 o1 o2 o3 S
        simp only at d1 d2 o1 o2 o3
        clear ee mem al tl
        have OK := Lib.hid (jn_all (l.take k) (fun r hr => HL.out r (List.mem_of_mem_take hr)))
        obtain ⟨a, ea⟩ : ∃ a, jn (l.take k) = a := ⟨_, rfl⟩
        rw [ea] at hown S al2 OK
        clear ea
        rcases snoc_cases a with rfl | ⟨bb, q, rfl⟩
        · have e : jstep [] (lo, hi') = [(lo, hi')] := by simp [jstep]
          rw [e] at S
          clear e
          simp only [List.length_nil] at hown
          obtain ⟨ad, cp, rfl⟩ : ∃ ad cp, u3 = .slice ad 0 cp := by
            rcases hown.2 with ⟨h, _⟩ | ⟨g, cp, cur, h, _⟩
            · exact ⟨_, _, h⟩
            · exact ⟨_, _, h⟩
          clear al2
          have g1 : decide ((0 : Int) ≤ -1) = false := by decide
          go_wp2
          go_quiet (fail)
          go_wp2_with (at_builtin; refine wpList_append_own _ rfl (.tmp 41) (.tmp 43) 103 rfl w.heap.size 118 i0 (.agg #[.int .i64 0, .int .i64 0]) 2 16 Tryd.underlying103 hi hz0 hz1 hz2 rfl (by decide) _ _ _ rfl (own_two hown _ _ _) ⟨wr.heap.size + 1, 0, none⟩ 1 1 [.int .i64 lo, .int .i64 hi'] rfl rfl (cell_two_last _ _ _ _ _ _) (by intro u hu; simp at hu; rcases hu with rfl | rfl <;> rfl) (by unfold maxLen; omega) (by omega) (by simp; omega) ?_; intro v1 w1 hown1 hgrow1 hnil1)
          go_roundw
          case rel => exact ⟨k + 1, by omega, by go_num, by rw [S.out]; exact hown1, kp_grown_d K1.out hgrow1 (fun j hj => (hown.lt j hj).1)⟩
          case measure => simp [intOf]; omega
        · rw [jstep_snoc] at S
          have S2 := S
          clear S
          obtain ⟨g, cp, rfl, gb, gl⟩ := World.ownsRow.form hown (by simp)
          have gne : ¬ g = wr.heap.size := by omega
          have cq : wr.cell? ⟨g, bb.length * 2 + 1, none⟩ = some (.int .i64 q.2) := by
            rw [hown.cellAt _ (by simp; omega), cellsR_append, List.getElem?_append_right (by rw [cellsR_length]; omega), cellsR_length]
            simp [cellsR]
          have fz := hown.frozenAt (bb.length * 2 + 1)
          obtain ⟨q1, q2⟩ := q
          have al3 := al2
          simp only [List.length_append, List.length_singleton] at al2
          simp only at cq S2
          have H := Lib.hid hown
          clear hown
          have ql : -1099511627776 ≤ q2 ∧ q2 ≤ 1099511627776 := by
            have := OK.out (q1, q2) (by simp)
            obtain ⟨p1, p2, p3⟩ := this
            simp only at p1 p2 p3; omega
          obtain ⟨ql1, ql2⟩ := ql
          have wr1 : IntKind.i64.wrap (q2 + 1) = q2 + 1 := by rw [IntKind.wrap_i64]; omega
          obtain ⟨m, em⟩ : ∃ m, bb.length = m := ⟨_, rfl⟩
          rw [em] at cq fz al2
          have EM := Lib.hid em
          by_cases c : lo ≤ q2 + 1
          · rw [if_pos c] at S2
            have g2 : decide (lo ≤ q2 + 1) = true := by simpa using c
            go_wp2
            go_quiet (fail)
            go_wp2
            go_region
            go_wp2
            have hs := (World.ownsRow.stored (own_drewN (H.out.alloc (.cells #[.int .i64 lo, .int .i64 hi'] 118)) (nq + 1)) (m * 2 + 1) (.int .i64 (if q2 < hi' then hi' else q2))).1
            rw [← em, cells_set] at hs
            rw [show (if q2 < hi' then hi' else q2) = max q2 hi' by split <;> omega] at hs ⊢
            rw [← em]
            refine ⟨⟨k + 1, by omega, by go_num, ?_, ?_⟩, by simp [intOf]; omega⟩
            · rw [S2.out]
              simpa using hs
            · exact Below.setCell (K1.out.trans ((Kp.alloc _ _).trans (Kp.drewN _ _))) gb _
          · rw [if_neg c] at S2
            have g2 : decide (lo ≤ q2 + 1) = false := by simpa using c
            go_wp2
            go_quiet (fail)
            have hown := H.out
            simp only [List.length_append, List.length_singleton, em] at hown
            go_wp2_with (at_builtin; refine wpList_append_own _ rfl (.tmp 41) (.tmp 43) 103 rfl w.heap.size 118 i0 (.agg #[.int .i64 0, .int .i64 0]) 2 16 Tryd.underlying103 hi hz0 hz1 hz2 rfl (by decide) _ (m + 1) _ rfl (own_two hown _ _ _) ⟨wr.heap.size + 1, 0, none⟩ 1 1 [.int .i64 lo, .int .i64 hi'] rfl rfl (cell_two_last _ _ _ _ _ _) (by intro u hu; simp at hu; rcases hu with rfl | rfl <;> rfl) (by unfold maxLen; omega) (by omega) (by simp; omega) ?_; intro v1 w1 hown1 hgrow1 hnil1)
            go_roundw
            case rel => exact ⟨k + 1, by omega, by go_num, by rw [S2.out, cellsR_append, List.length_append, List.length_append, List.length_singleton, em]; exact hown1, kp_grown_d K1.out hgrow1 (fun j hj => (hown.lt j hj).1)⟩
            case measure => simp [intOf]; omega
      · have A : jn (l.take k) = jn l := by rw [show k = l.length by omega, List.take_length]
        rw [A] at hown
        clear A
        go_wp2
        go_ret
        exact ⟨_, rfl, hown, K1.out⟩
end Go.Proofs.YtndmohamjffpcaaDoor
