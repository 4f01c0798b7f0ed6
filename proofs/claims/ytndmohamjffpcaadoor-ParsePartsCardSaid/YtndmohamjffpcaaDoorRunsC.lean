/-
  Contracts of package runs: within.
-/
import Derived.Test.YtndmohamjffpcaaDoorRunsB
import Derived.OwnWalk
namespace Go.Proofs.YtndmohamjffpcaaDoor
open Go.RowKit
set_option linter.unusedVariables false
def cellsR (l : List R) : List Value := l.flatMap fun r => [.int .i64 r.1, .int .i64 r.2]
theorem cellsR_append (a b : List R) : cellsR (a ++ b) = cellsR a ++ cellsR b := by unfold cellsR; simp
theorem cellsR_length (l : List R) : (cellsR l).length = l.length * 2 := by unfold cellsR; induction l with | nil => rfl | cons r t ih => simp at ih ⊢; omega
def wi (l : List R) : List R := (l.map clipR).filter fun r => decide (r.1 ≤ r.2)
theorem take_at (l : List R) (k : Nat) (h : k < l.length) : l.take (k + 1) = l.take k ++ [at_ l k] := by
  rw [List.take_succ_eq_append_getElem h]; unfold at_; simp [List.getD, h]
theorem wi_yes (l : List R) (k : Nat) (h : k < l.length) (g : (clipR (at_ l k)).1 ≤ (clipR (at_ l k)).2) : wi (l.take (k + 1)) = wi (l.take k) ++ [clipR (at_ l k)] := by
  rw [take_at l k h]; unfold wi; simp [g]
theorem wi_no (l : List R) (k : Nat) (h : k < l.length) (g : ¬ (clipR (at_ l k)).1 ≤ (clipR (at_ l k)).2) : wi (l.take (k + 1)) = wi (l.take k) := by
  rw [take_at l k h]; unfold wi; simp [g]
theorem wi_len (l : List R) : (wi l).length ≤ l.length := by
  unfold wi; have := List.length_filter_le (fun r : R => decide (r.1 ≤ r.2)) (l.map clipR); simpa using this
theorem infoR : (Tryd.prog.info? 118).map (fun i => (i.zero, i.size, i.bytes)) = some (some (.agg #[.int .i64 0, .int .i64 0]), 2, 16) := by kernel_rfl

theorem cell_two_next (w : World) (o : Obj) (a b : Value) (t : TypeId) : ∀ j u, [a, b][j]? = some u → ((w.alloc o).alloc (.cells #[a, b] t)).cell? ((⟨w.heap.size + 1, 0, none⟩ : Addr).add j) = some u := by
  have h := cell_two_new (w.alloc o) a b t
  simpa using h
/-- behind two new blocks, one row of the call's own has grown -/
theorem kp_grown {w wr w1 : World} {v : Value} {o1 o2 : Obj} (k : Kp w wr) (g : ((wr.alloc o1).alloc o2).grownBy w1 v.ownBlock) (h : ∀ j, v.ownBlock = some j → w.heap.size ≤ j) : Kp w w1 := by
  have s : w.heap.size ≤ wr.heap.size := k.size
  have k2 : Below w.heap.size w ((wr.alloc o1).alloc o2) := (Below.alloc k s o1).alloc (by simp; omega) o2
  exact k2.grown g (by simp; omega) h
set_option maxHeartbeats 2000000 in
set_option maxRecDepth 100000 in
theorem within_any (v : Value) (l : List R) (w : World) (hv : RunsAt w v l) (hl : I64R l) (hn : l.length ≤ 1000000) :
    Calls Tryd.prog 74 #[v] w fun e w' => ∃ v' : Value, e = .returned v' ∧ w'.ownsRow w.heap.size 118 2 v' (wi l).length (cellsR (wi l)) ∧ Kp w w' := by
  obtain ⟨i0, hi, hz0, hz1, hz2⟩ := info_parts infoR
  rcases hv with ⟨ad0, cp0, rfl, rfl⟩ | ⟨b, off, cap, rfl, hc, hm, hx⟩
  · go_enter Tryd.func74, Tryd.ntmps74
    go_wp2_with (at_make; refine wpList_make_own _ rfl _ _ 103 rfl w.heap.size 118 i0 (.agg #[.int .i64 0, .int .i64 0]) 2 Tryd.underlying103 hi hz0 hz1 .i64 .i64 _ 0 rfl rfl rfl (by rw [hz2]; omega) (by unfold maxLen; omega) (Nat.le_refl _) ?_; intro w0 hown0 hgrow0)
    go_loopw [3, 11] (fun v i wr => i = .int .i64 0 ∧ wr.ownsRow w.heap.size 118 2 v 0 [] ∧ Kp w wr) (fun _ _ _ => 0)
    case atStart => exact ⟨rfl, hown0, (Below.refl _ _).grown hgrow0 (Nat.le_refl _) (fun k h => by cases h)⟩
    case round =>
      obtain ⟨rfl, hown, k1⟩ := hrel
      go_wp2
      go_ret
      exact ⟨_, rfl, hown, k1⟩
  · have hm2 : l.length ≤ 9223372036854775807 := by unfold maxLen at hm; omega
    have HX := Lib.hid hx
    have HL := Lib.hid hl
    clear hx hl
    go_enter Tryd.func74, Tryd.ntmps74
    go_wp2_with (at_make; refine wpList_make_own _ rfl _ _ 103 rfl w.heap.size 118 i0 (.agg #[.int .i64 0, .int .i64 0]) 2 Tryd.underlying103 hi hz0 hz1 .i64 .i64 _ l.length rfl rfl rfl (by rw [hz2]; omega) (by unfold maxLen; omega) (Nat.le_refl _) ?_; intro w0 hown0 hgrow0)
    go_loopw [3, 11] (fun v i wr => ∃ k : Nat, k ≤ l.length ∧ i = .int .i64 k ∧ wr.ownsRow w.heap.size 118 2 v (wi (l.take k)).length (cellsR (wi (l.take k))) ∧ Kp w wr) (fun _ i _ => l.length - (intOf i).toNat)
    case atStart => exact ⟨0, Nat.zero_le _, rfl, hown0, (Below.refl _ _).grown hgrow0 (Nat.le_refl _) (fun k h => by cases h)⟩
    case round =>
      obtain ⟨k, hk, rfl, hown, k1⟩ := hrel
      have K1 := Lib.hid k1
      have hsz := k1.size
      clear k1
      by_cases hlt : k < l.length
      · obtain ⟨c1, c2⟩ := HX.out k hlt
        have d1 := (Below.cell (p := ⟨b, off + k * 2, none⟩) K1.out (World.block_lt_of_cell? _ _ c1)).trans c1
        have d2 := (Below.cell (p := ⟨b, off + k * 2 + 1, none⟩) K1.out (World.block_lt_of_cell? _ _ c2)).trans c2
        clear c1 c2
        have bd := I64R.at_ HL.out hlt
        have Y := Lib.hid (wi_yes l k hlt)
        have NN := Lib.hid (wi_no l k hlt)
        have wl := wi_len (l.take k)
        have tl : (l.take k).length ≤ k := List.length_take_le _ _
        have wl2 : (wi (l.take k)).length ≤ 1000000 := by omega
        obtain ⟨lo, elo⟩ : ∃ x, x = (at_ l k).1 := ⟨_, rfl⟩
        obtain ⟨hi', ehi⟩ : ∃ x, x = (at_ l k).2 := ⟨_, rfl⟩
        have EC : Hid (clipR (at_ l k) = (max lo (-1099511627776), min hi' 1099511627776)) := by rw [elo, ehi]; rfl
        rw [← elo] at d1 bd
        rw [← ehi] at d2 bd
        clear elo ehi wl tl
        by_cases a1 : -1099511627776 ≤ lo <;> by_cases a2 : hi' ≤ 1099511627776
        · have e : clipR (at_ l k) = (lo, hi') := by rw [EC.out, Int.max_eq_left a1, Int.min_eq_left a2]
          rw [e] at Y NN
          clear e EC
          by_cases g : ((lo, hi') : R).1 ≤ ((lo, hi') : R).2
          · have g' : lo ≤ hi' := g
            have Z := Lib.hid (Y.out g)
            clear Y NN
            go_wp2_with (at_builtin; refine wpList_append_own _ rfl (.tmp 27) (.tmp 29) 103 rfl w.heap.size 118 i0 (.agg #[.int .i64 0, .int .i64 0]) 2 16 Tryd.underlying103 hi hz0 hz1 hz2 rfl (by decide) _ _ _ rfl ((hown.alloc _).alloc _) ⟨wr.heap.size + 1, 0, none⟩ 1 1 [.int .i64 lo, .int .i64 hi'] rfl rfl (cell_two_next _ _ _ _ _) (by intro u hu; simp at hu; rcases hu with rfl | rfl <;> rfl) (by unfold maxLen; omega) (by omega) (by simp; omega) ?_; intro v1 w1 hown1 hgrow1 hnil1)
            go_roundw
            case rel =>
              exact ⟨k + 1, by omega, by go_num, by rw [Z.out, cellsR_append, List.length_append]; exact hown1, kp_grown K1.out hgrow1 (fun j hj => (hown.lt j hj).1)⟩
            case measure => simp [intOf]; omega
          · have g' : ¬ lo ≤ hi' := g
            have Z := Lib.hid (NN.out g)
            clear Y NN
            go_wp2
            go_roundw
            case rel => exact ⟨k + 1, by omega, by go_num, by rw [Z.out]; exact hown.alloc _, K1.out.trans (Kp.alloc _ _)⟩
            case measure => simp [intOf]; omega
        · have e : clipR (at_ l k) = (lo, 1099511627776) := by rw [EC.out, Int.max_eq_left a1, Int.min_eq_right (by omega)]
          rw [e] at Y NN
          clear e EC
          by_cases g : ((lo, 1099511627776) : R).1 ≤ ((lo, 1099511627776) : R).2
          · have g' : lo ≤ 1099511627776 := g
            have Z := Lib.hid (Y.out g)
            clear Y NN
            go_wp2_with (at_builtin; refine wpList_append_own _ rfl (.tmp 27) (.tmp 29) 103 rfl w.heap.size 118 i0 (.agg #[.int .i64 0, .int .i64 0]) 2 16 Tryd.underlying103 hi hz0 hz1 hz2 rfl (by decide) _ _ _ rfl ((hown.alloc _).alloc _) ⟨wr.heap.size + 1, 0, none⟩ 1 1 [.int .i64 lo, .int .i64 1099511627776] rfl rfl (cell_two_next _ _ _ _ _) (by intro u hu; simp at hu; rcases hu with rfl | rfl <;> rfl) (by unfold maxLen; omega) (by omega) (by simp; omega) ?_; intro v1 w1 hown1 hgrow1 hnil1)
            go_roundw
            case rel =>
              exact ⟨k + 1, by omega, by go_num, by rw [Z.out, cellsR_append, List.length_append]; exact hown1, kp_grown K1.out hgrow1 (fun j hj => (hown.lt j hj).1)⟩
            case measure => simp [intOf]; omega
          · have g' : ¬ lo ≤ 1099511627776 := g
            have Z := Lib.hid (NN.out g)
            clear Y NN
            go_wp2
            go_roundw
            case rel => exact ⟨k + 1, by omega, by go_num, by rw [Z.out]; exact hown.alloc _, K1.out.trans (Kp.alloc _ _)⟩
            case measure => simp [intOf]; omega
        · have e : clipR (at_ l k) = ((-1099511627776), hi') := by rw [EC.out, Int.max_eq_right (by omega), Int.min_eq_left a2]
          rw [e] at Y NN
          clear e EC
          by_cases g : (((-1099511627776), hi') : R).1 ≤ (((-1099511627776), hi') : R).2
          · have g' : (-1099511627776) ≤ hi' := g
            have Z := Lib.hid (Y.out g)
            clear Y NN
            go_wp2_with (at_builtin; refine wpList_append_own _ rfl (.tmp 27) (.tmp 29) 103 rfl w.heap.size 118 i0 (.agg #[.int .i64 0, .int .i64 0]) 2 16 Tryd.underlying103 hi hz0 hz1 hz2 rfl (by decide) _ _ _ rfl ((hown.alloc _).alloc _) ⟨wr.heap.size + 1, 0, none⟩ 1 1 [.int .i64 (-1099511627776), .int .i64 hi'] rfl rfl (cell_two_next _ _ _ _ _) (by intro u hu; simp at hu; rcases hu with rfl | rfl <;> rfl) (by unfold maxLen; omega) (by omega) (by simp; omega) ?_; intro v1 w1 hown1 hgrow1 hnil1)
            go_roundw
            case rel =>
              exact ⟨k + 1, by omega, by go_num, by rw [Z.out, cellsR_append, List.length_append]; exact hown1, kp_grown K1.out hgrow1 (fun j hj => (hown.lt j hj).1)⟩
            case measure => simp [intOf]; omega
          · have g' : ¬ (-1099511627776) ≤ hi' := g
            have Z := Lib.hid (NN.out g)
            clear Y NN
            go_wp2
            go_roundw
            case rel => exact ⟨k + 1, by omega, by go_num, by rw [Z.out]; exact hown.alloc _, K1.out.trans (Kp.alloc _ _)⟩
            case measure => simp [intOf]; omega
        · have e : clipR (at_ l k) = ((-1099511627776), 1099511627776) := by rw [EC.out, Int.max_eq_right (by omega), Int.min_eq_right (by omega)]
          rw [e] at Y NN
          clear e EC
          have g : ((-1099511627776, 1099511627776) : R).1 ≤ ((-1099511627776, 1099511627776) : R).2 := by decide
          have Z := Lib.hid (Y.out g)
          clear Y NN
          go_wp2_with (at_builtin; refine wpList_append_own _ rfl (.tmp 27) (.tmp 29) 103 rfl w.heap.size 118 i0 (.agg #[.int .i64 0, .int .i64 0]) 2 16 Tryd.underlying103 hi hz0 hz1 hz2 rfl (by decide) _ _ _ rfl ((hown.alloc _).alloc _) ⟨wr.heap.size + 1, 0, none⟩ 1 1 [.int .i64 (-1099511627776), .int .i64 1099511627776] rfl rfl (cell_two_next _ _ _ _ _) (by intro u hu; simp at hu; rcases hu with rfl | rfl <;> rfl) (by unfold maxLen; omega) (by omega) (by simp; omega) ?_; intro v1 w1 hown1 hgrow1 hnil1)
          go_roundw
          case rel =>
            exact ⟨k + 1, by omega, by go_num, by rw [Z.out, cellsR_append, List.length_append]; exact hown1, kp_grown K1.out hgrow1 (fun j hj => (hown.lt j hj).1)⟩
          case measure => simp [intOf]; omega
      · have A : wi (l.take k) = wi l := by rw [show k = l.length by omega, List.take_length]
        rw [A] at hown
        clear A
        go_wp2
        go_ret
        exact ⟨_, rfl, hown, K1.out⟩
end Go.Proofs.YtndmohamjffpcaaDoor
