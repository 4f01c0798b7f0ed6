/-
  Contracts of package mask: further.
-/
import Derived.Test.YtgjdaaopebkokaaMaskN
import Derived.Test.YtgjdaaopebkokaaMaskA
import Derived.OwnWalk
import Derived.Deep.DeepMust
import Derived.Deep.AppendLies
namespace Go.Proofs.Ytgjdaaopebkokaa
open Go.RowKit
set_option linter.unusedVariables false
theorem cell_two_a (w : World) (a b : Value) (t : TypeId) : ∀ j u, [a, b][j]? = some u → (w.alloc (.cells #[a, b] t)).cell? ((⟨w.heap.size, 0, none⟩ : Addr).add j) = some u := by
  intro j u hu
  rcases j with _ | _ | j
  · simp at hu; subst hu; simp [Addr.add]
  · simp at hu; subst hu; simp [Addr.add]
  · simp at hu
theorem kp_grown1 {w wr w1 : World} {v : Value} {o1 : Obj} (k : Kp w wr) (g : (wr.alloc o1).grownBy w1 v.ownBlock) (h : ∀ j, v.ownBlock = some j → w.heap.size ≤ j) : Kp w w1 := by
  have s : w.heap.size ≤ wr.heap.size := k.size
  have k2 : Below w.heap.size w (wr.alloc o1) := Below.alloc k s o1
  exact k2.grown g (by simp; omega) h
theorem grown_cell {wr w1 : World} {v : Value} {o1 : Obj} {B o : Nat} (g : (wr.alloc o1).grownBy w1 v.ownBlock) (hB : B < wr.heap.size) (hn : ∀ j, v.ownBlock = some j → j ≠ B) : w1.cell? ⟨B, o, none⟩ = wr.cell? ⟨B, o, none⟩ := by
  have e : w1.heap[B]? = (wr.alloc o1).heap[B]? := g.block B (by simp; omega) (fun c => hn B c.symm rfl)
  have e2 : w1.heap[B]? = wr.heap[B]? := by rw [e]; exact Below.heap_alloc _ _ _ hB
  exact World.cell?_of_block (w := wr) e2
theorem own_ne {g1 : Nat} {o : Option Nat} {B H : Nat} (ne : ∀ j, o = some j → j ≠ B) (hat : o = some g1 ∨ g1 = H) (h : B < H) : ∀ g, (some g1 : Option Nat) = some g → g ≠ B := by
  intro g hg
  have e := Option.some.inj hg
  rcases hat with h' | h'
  · exact e ▸ ne g1 h'
  · omega
set_option maxHeartbeats 4000000 in
set_option maxRecDepth 100000 in
theorem further_any (v : Value) (l : List R) (b : Nat) (w : World) (hv : RunsAt w v l) (hg : Gd 1000 l) (ht : tot l ≤ 1000) (hb : b = 88 ∨ (48 ≤ b ∧ b ≤ 57)) :
    Calls Try.prog 40 #[v, .int .i32 b] w fun e w' => ∃ v' : Value, e = .returned v' ∧ w'.ownsRow w.heap.size 40 2 v' (furL b l).length (cellsR (furL b l)) ∧ Kp w w' := by
  obtain ⟨i0, hi, hz0, hz1, hz2⟩ := info_parts infoR
  rcases hv with ⟨rfl, rfl⟩ | ⟨b0, off, cap, rfl, hc, hm, hx⟩
  · go_enter Try.func40, Try.ntmps40
    go_wp2_with (at_make; refine wpList_make_own _ rfl _ _ 30 rfl w.heap.size 40 i0 (.agg #[.int .i64 0, .int .i64 0]) 2 Try.underlying30 hi hz0 hz1 .i64 .i64 _ 0 rfl rfl rfl (by rw [hz2]; omega) (by unfold maxLen; omega) (Nat.le_refl _) ?_; intro w0 hown0 hgrow0)
    go_loopw [5, 15] (fun v i wr => i = .int .i64 0 ∧ wr.ownsRow w.heap.size 40 2 v 0 [] ∧ Kp w wr) (fun _ _ _ => 0)
    case atStart => exact ⟨rfl, hown0, (Below.refl _ _).grown hgrow0 (Nat.le_refl _) (fun k h => by cases h)⟩
    case round =>
      obtain ⟨rfl, hown, k1⟩ := hrel
      go_wp2
      go_ret
      exact ⟨_, rfl, hown, k1⟩
  · have hm2 : l.length ≤ 1000 := Nat.le_trans hg.tot ht
    have ft := furL_tot (b := b) hg
    have fl := (furL_gd hg hb).tot
    have FT := Lib.hid (fun k => Nat.le_trans (furL_take_len b l k) (show (furL b l).length ≤ 10000 by omega))
    have FS := Lib.hid (fun k h => furL_snoc b l k h)
    have HX := Lib.hid hx
    have HG := Lib.hid hg
    clear hx hg ft fl
    go_enter Try.func40, Try.ntmps40
    go_wp2_with (at_make; refine wpList_make_own _ rfl _ _ 30 rfl w.heap.size 40 i0 (.agg #[.int .i64 0, .int .i64 0]) 2 Try.underlying30 hi hz0 hz1 .i64 .i64 _ l.length rfl rfl rfl (by rw [hz2]; omega) (by unfold maxLen; omega) (Nat.le_refl _) ?_; intro w0 hown0 hgrow0)
    go_loopw [5, 15] (fun v i wr => ∃ k : Nat, k ≤ l.length ∧ i = .int .i64 k ∧ wr.ownsRow w.heap.size 40 2 v (furL b (l.take k)).length (cellsR (furL b (l.take k))) ∧ Kp w wr) (fun _ i _ => l.length - (intOf i).toNat)
    case atStart => exact ⟨0, Nat.zero_le _, rfl, hown0, (Below.refl _ _).grown hgrow0 (Nat.le_refl _) (fun k h => by cases h)⟩
    case round =>
      obtain ⟨k, hk, rfl, hown, k1⟩ := hrel
      have K1 := Lib.hid k1
      have hsz := k1.size
      clear k1
      by_cases hlt : k < l.length
      · obtain ⟨c1, c2⟩ := HX.out k hlt
        have d1 := (Below.cell (p := ⟨b0, off + k * 2, none⟩) K1.out (World.block_lt_of_cell? _ _ c1)).trans c1
        have d2 := (Below.cell (p := ⟨b0, off + k * 2 + 1, none⟩) K1.out (World.block_lt_of_cell? _ _ c2)).trans c2
        clear c1 c2
        have mem : at_ l k ∈ l := by
          have : at_ l k = l[k] := by unfold at_; simp [List.getD, hlt]
          rw [this]; exact List.getElem_mem hlt
        obtain ⟨o1, o2, o3⟩ := HG.out _ mem
        have S := FS.out k hlt
        have al := FT.out k
        obtain ⟨lo, hi', ee⟩ : ∃ x y, at_ l k = (x, y) := ⟨_, _, rfl⟩
        rw [ee] at d1 d2 o1 o2 o3 S
        simp only at d1 d2 o1 o2 o3
        clear ee mem
        generalize furL b (l.take k) = a at *
        by_cases h88 : b = 88
        · have g88 : ((b : Int) == 88) = true := by simp; omega
          have S2 := Lib.hid (show furL b (l.take (k + 1)) = a ++ [(10 * lo, 10 * hi' + 9)] by rw [S]; unfold furR; rw [if_pos h88])
          clear S hb h88
          have e9 : 10 * hi' + 10 - 1 = 10 * hi' + 9 := by omega
          go_wp2_with (at_builtin; go_must (refine wpList_append_own _ rfl (.tmp 21) (.tmp 31) 30 rfl w.heap.size 40 i0 (.agg #[.int .i64 0, .int .i64 0]) 2 16 Try.underlying30 hi hz0 hz1 hz2 rfl (by decide) _ _ _ rfl ((hown.alloc _).alloc _) ⟨_, 0, none⟩ 1 1 [.int .i64 (10 * lo), .int .i64 (10 * hi' + 9)] rfl rfl (cell_two_next _ _ _ _ _) (by intro u hu; simp at hu; rcases hu with rfl | rfl <;> rfl) (by unfold maxLen; omega) (by omega) (by simp; omega) ?_); intro v1 w1 hown1 hgrow1 hnil1)
          go_roundw
          case rel => exact ⟨k + 1, by omega, by go_num, by rw [S2.out, cellsR_append, List.length_append]; exact hown1, kp_grown K1.out hgrow1 (fun j hj => (hown.lt j hj).1)⟩
          case measure => simp [intOf]; omega
        · have hb2 : 48 ≤ b ∧ b ≤ 57 := by omega
          obtain ⟨hb3, hb4⟩ := hb2
          have V := Lib.hid (fun w => value_any (b : Int) w (by omega) (by omega))
          have S2 := Lib.hid (show furL b (l.take (k + 1)) = a ++ digR b lo (hi' - lo + 1).toNat by rw [S]; unfold furR; rw [if_neg h88])
          have g88 : ((b : Int) == 88) = false := by simp; omega
          clear S hb
          have OW := Lib.hid hown
          have L0 := Lib.hid (fun j h => (hown.lt j h).2)
          clear hown
          go_wp2
          go_loopw [5, 8, 9] (fun v i _ wr2 => ∃ j : Nat, lo + j ≤ hi' + 1 ∧ i = .int .i64 (lo + j) ∧ wr2.ownsRow w.heap.size 40 2 v (a ++ digR b lo j).length (cellsR (a ++ digR b lo j)) ∧ (∀ g, v.ownBlock = some g → g ≠ wr.heap.size) ∧ wr.heap.size < wr2.heap.size ∧ wr2.cell? ⟨wr.heap.size, 1, none⟩ = some (.int .i64 hi') ∧ Kp w wr2) (fun _ i _ _ => (hi' + 1 - intOf i).toNat)
          case atStart =>
            refine ⟨0, by omega, by simp, ?_, fun g h => by have := L0.out g h; omega, by simp, by simp, K1.out.trans (Kp.alloc _ _)⟩
            rw [show a ++ digR b lo 0 = a by unfold digR; simp]
            exact OW.out.alloc _
          case round =>
            obtain ⟨j, hj, rfl, hown, hne, hBs, hB, k2⟩ := hrel
            have K2 := Lib.hid k2
            have hsz2 := k2.size
            clear k2
            by_cases hjl : lo + j ≤ hi'
            · have hd : decide (lo + (j : Int) ≤ hi') = true := by simpa using hjl
              have D := Lib.hid (digR_snoc b lo j)
              have dl := digR_len b lo j
              have al2 : (a ++ digR b lo j).length ≤ 20000 := by rw [List.length_append]; omega
              have NE := Lib.hid hne
              obtain ⟨A, eA⟩ : ∃ A, a ++ digR b lo j = A := ⟨_, rfl⟩
              rw [eA] at hown al2
              have EA := Lib.hid eA
              clear eA dl hne
              go_wp2_with fail; refine (V.out _).mono ?_; rintro e w' ⟨rfl, rfl⟩
              go_wp2_with (at_builtin; go_must (refine wpList_append_lies _ rfl (.tmp 46) (.tmp 50) 30 rfl w.heap.size 40 i0 (.agg #[.int .i64 0, .int .i64 0]) 2 16 Try.underlying30 hi hz0 hz1 hz2 rfl (by decide) _ _ _ rfl (hown.alloc _) ⟨_, 0, none⟩ 1 1 [.int .i64 (10 * (lo + j) + (b - 48)), .int .i64 (10 * (lo + j) + (b - 48))] rfl rfl (cell_two_a _ _ _ _) (by intro u hu; simp at hu; rcases hu with rfl | rfl <;> rfl) (by omega) (by unfold maxLen; omega) (by omega) (by simp; omega) _ rfl ?_); intro g1 cp1 w1 hown1 hgrow1 hat1 hlt1)
              refine ⟨⟨j + 1, by omega, congrArg (Value.int .i64) (by omega), ?_, own_ne NE.out hat1 (by simp; omega), ?_, ?_, kp_grown1 K2.out hgrow1 (fun j hj => (hown.lt j hj).1)⟩, by simp [intOf]; omega⟩
              · rw [D.out, ← List.append_assoc, EA.out, cellsR_append, List.length_append]
                exact hown1
              · have := hgrow1.size; simp at this; omega
              · rw [grown_cell hgrow1 hBs NE.out]; exact hB
            · have hd : decide (lo + (j : Int) ≤ hi') = false := by simpa using hjl
              have ej : j = (hi' - lo + 1).toNat := by omega
              rw [ej, ← S2.out] at hown
              have H := Lib.hid hown
              clear hown ej
              go_wp2
              go_roundw
              case rel => exact ⟨k + 1, by omega, by go_num, H.out, K2.out⟩
              case measure => simp [intOf]; omega
      · obtain rfl : k = l.length := by omega
        rw [List.take_length] at hown
        have H := Lib.hid hown
        clear hown
        go_wp2
        go_ret
        exact ⟨_, rfl, H.out, K1.out⟩
end Go.Proofs.Ytgjdaaopebkokaa
