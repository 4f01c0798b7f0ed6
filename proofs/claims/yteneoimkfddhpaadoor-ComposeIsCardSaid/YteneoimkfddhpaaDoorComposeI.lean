/-
  The document's answer for layer 19: all intervals, and those pairs of them that stand in a relation.
-/
import Derived.Test.YteneoimkfddhpaaDoorComposeW3
import Derived.Test.YteneoimkfddhpaaDoorAllenRA
import Derived.OwnWalk
import Derived.Deep.DeepMust
import Derived.Deep.AppendLies
namespace Go.Proofs.YteneoimkfddhpaaDoor
open Go.RowKit
set_option linter.unusedVariables false
abbrev NN := Nat × Nat
def atN (l : List NN) (i : Nat) : NN := l.getD i (0, 0)
def cellsN (l : List NN) : List Value := l.flatMap fun r => [.int .i64 r.1, .int .i64 r.2]
theorem cellsN_append (a b : List NN) : cellsN (a ++ b) = cellsN a ++ cellsN b := by unfold cellsN; simp
theorem cellsN_length (l : List NN) : (cellsN l).length = l.length * 2 := by unfold cellsN; induction l with | nil => rfl | cons r t ih => simp at ih ⊢; omega
theorem cellsN_at : ∀ (l : List NN) (i : Nat), i < l.length → (cellsN l)[i * 2]? = some (.int .i64 (atN l i).1) ∧ (cellsN l)[i * 2 + 1]? = some (.int .i64 (atN l i).2) := by
  intro l
  induction l with
  | nil => intro i h; simp at h
  | cons r t ih =>
    intro i h
    have e : cellsN (r :: t) = [.int .i64 r.1, .int .i64 r.2] ++ cellsN t := by unfold cellsN; simp
    cases i with
    | zero => rw [e]; exact ⟨rfl, rfl⟩
    | succ i =>
      have g := ih i (by simpa using h)
      rw [e, List.getElem?_append_right (by simp; omega), List.getElem?_append_right (by simp; omega)]
      rw [show (i + 1) * 2 - [Value.int .i64 (r.1 : Int), Value.int .i64 (r.2 : Int)].length = i * 2 by simp; omega, show (i + 1) * 2 + 1 - [Value.int .i64 (r.1 : Int), Value.int .i64 (r.2 : Int)].length = i * 2 + 1 by simp; omega]
      exact g
/-- a slice of pairs reads as this list -/
def PairsAt (w : World) (v : Value) (l : List NN) : Prop :=
  (v = .slice none 0 0 ∧ l = []) ∨ ∃ b cap, v = .slice (some ⟨b, 0, none⟩) l.length cap ∧ b < w.heap.size ∧
    ∀ i, i < l.length → w.cell? ⟨b, i * 2, none⟩ = some (.int .i64 (atN l i).1) ∧ w.cell? ⟨b, i * 2 + 1, none⟩ = some (.int .i64 (atN l i).2)
theorem PairsAt.kp {w w' : World} {v : Value} {l : List NN} (h : PairsAt w v l) (k : Kp w w') : PairsAt w' v l := by
  rcases h with h | ⟨b, cap, e, h1, h3⟩
  · exact .inl h
  · refine .inr ⟨b, cap, e, Nat.lt_of_lt_of_le h1 k.size, fun i hi => ?_⟩
    obtain ⟨c1, c2⟩ := h3 i hi
    exact ⟨(Below.cell (p := ⟨b, i * 2, none⟩) k h1).trans c1, (Below.cell (p := ⟨b, i * 2 + 1, none⟩) k h1).trans c2⟩
theorem pairsAt_own {w : World} {base : Nat} {e : TypeId} {v : Value} {l : List NN} (h : w.ownsRow base e 2 v l.length (cellsN l)) : PairsAt w v l := by
  by_cases hn : l = []
  · subst hn
    rcases h.2 with ⟨e1, _⟩ | ⟨g, cp, cur, e1, h2, h3, _⟩
    · exact .inl ⟨e1, rfl⟩
    · exact .inr ⟨g, cp, e1, (h.lt g (by rw [e1]; rfl)).2, fun i hi => by simp at hi⟩
  · obtain ⟨g, cp, rfl, gb, gl⟩ := World.ownsRow.form h (by cases l with | nil => exact absurd rfl hn | cons a t => simp)
    refine .inr ⟨g, cp, rfl, gl, fun i hi => ?_⟩
    obtain ⟨c1, c2⟩ := cellsN_at l i hi
    rw [h.cellAt _ (by omega), h.cellAt _ (by omega)]
    exact ⟨c1, c2⟩
theorem cell_two_a (w : World) (a b : Value) (t : TypeId) : ∀ j u, [a, b][j]? = some u → (w.alloc (.cells #[a, b] t)).cell? ((⟨w.heap.size, 0, none⟩ : Addr).add j) = some u := by
  intro j u hu
  rcases j with _ | _ | j
  · simp at hu; subst hu; simp [Addr.add]
  · simp at hu; subst hu; simp [Addr.add]
  · simp at hu
def ivN : List NN := [(0, 0), (0, 1), (0, 2), (0, 3), (0, 4), (1, 1), (1, 2), (1, 3), (1, 4), (2, 2), (2, 3), (2, 4), (3, 3), (3, 4), (4, 4)]
theorem ivN_iv (k : Nat) : (((atN ivN k).1 : Int), ((atN ivN k).2 : Int)) = iv k := by
  rcases Nat.lt_or_ge k 15 with h | h
  · revert k; decide
  · have e : ivN[k]? = none := List.getElem?_eq_none (by simpa [ivN] using h)
    have e' : ivs[k]? = none := List.getElem?_eq_none (by simpa [ivs] using h)
    unfold atN iv
    rw [List.getD_eq_getElem?_getD, List.getD_eq_getElem?_getD, e, e']
    decide
theorem ivN_next (s t : Nat) (h : s ≤ t) (h2 : t ≤ 4) : ivN.take (bs s + (t + 1 - s)) = ivN.take (bs s + (t - s)) ++ [(s, t)] ∧ (ivN.take (bs s + (t - s))).length = bs s + (t - s) ∧ bs s + (t - s) < 15 := by
  have a : s = 0 ∨ s = 1 ∨ s = 2 ∨ s = 3 ∨ s = 4 := by omega
  have b : t = 0 ∨ t = 1 ∨ t = 2 ∨ t = 3 ∨ t = 4 := by omega
  rcases a with rfl | rfl | rfl | rfl | rfl <;> rcases b with rfl | rfl | rfl | rfl | rfl <;> first | omega | decide
theorem infoP : (Tryd.prog.info? 23).map (fun i => (i.zero, i.size, i.bytes)) = some (some (.agg #[.int .i64 0, .int .i64 0]), 2, 16) := by kernel_rfl
theorem info2 : (Tryd.prog.info? 54).map (fun i => (i.zero, i.size, i.bytes)) = some (some (.agg #[.int .i64 0, .int .i64 0]), 2, 16) := by kernel_rfl
set_option maxHeartbeats 2000000 in
theorem some_any (w : World) :
    Calls Tryd.prog 42 #[] w fun e w' => ∃ v : Value, e = .returned v ∧ PairsAt w' v ivN ∧ Kp w w' := by
  obtain ⟨i0, hi, hz0, hz1, hz2⟩ := info_parts infoP
  go_enter Tryd.func42, Tryd.ntmps42
  go_wp2
  go_loopw [1, 2] (fun v i wr => ∃ s : Nat, s ≤ 5 ∧ i = .int .i64 s ∧ wr.ownsRow w.heap.size 23 2 v (ivN.take (bs s)).length (cellsN (ivN.take (bs s))) ∧ Kp w wr) (fun _ i _ => 5 - (intOf i).toNat)
  case atStart => exact ⟨0, by omega, rfl, World.ownsRow_nil _ _ _ _, Kp.refl _⟩
  case round =>
    obtain ⟨s, hs, rfl, hown, k1⟩ := hrel
    have K1 := Lib.hid k1
    have O1 := Lib.hid hown
    clear k1 hown
    by_cases hlt : s < 5
    · have hd : decide ((s : Int) < 5) = true := by simp; omega
      go_wp2
      go_loopw [1, 3] (fun v i wr => ∃ t : Nat, s ≤ t ∧ t ≤ 5 ∧ i = .int .i64 t ∧ wr.ownsRow w.heap.size 23 2 v (ivN.take (bs s + (t - s))).length (cellsN (ivN.take (bs s + (t - s)))) ∧ Kp w wr) (fun _ i _ => 5 - (intOf i).toNat)
      case atStart => exact ⟨s, by omega, by omega, rfl, by rw [Nat.sub_self]; exact O1.out, K1.out⟩
      case round =>
        obtain ⟨t, ht, ht5, rfl, hown, k1⟩ := hrel
        have K2 := Lib.hid k1
        have hsz := k1.size
        clear k1
        by_cases hlt2 : t < 5
        · obtain ⟨n1, n2, n3⟩ := ivN_next s t ht (by omega)
          have N1 := Lib.hid n1
          clear n1
          rw [n2] at hown
          have N2 := Lib.hid n2
          clear n2
          go_wp2_with (at_builtin; go_must (refine wpList_append_own _ rfl (.tmp 13) (.tmp 17) 50 rfl w.heap.size 23 i0 (.agg #[.int .i64 0, .int .i64 0]) 2 16 Tryd.underlying50 hi hz0 hz1 hz2 rfl (by decide) _ _ _ rfl (hown.alloc _) ⟨_, 0, none⟩ 1 1 [.int .i64 s, .int .i64 t] rfl rfl (cell_two_a _ _ _ _) (by intro u hu; simp at hu; rcases hu with rfl | rfl <;> rfl) (by unfold maxLen; omega) (by omega) (by simp; omega) ?_); intro v1 w1 hown1 hgrow1 hnil1)
          go_roundw
          case rel => exact ⟨t + 1, by omega, by omega, by go_num, by rw [N1.out, cellsN_append, List.length_append, N2.out]; exact hown1, kp_grown1 K2.out hgrow1 (fun j hj => (hown.lt j hj).1)⟩
          case measure => simp [intOf]; omega
        · obtain rfl : t = 5 := by omega
          rw [bs_next s (by omega)] at hown
          go_wp2
          go_roundw
          case rel => exact ⟨s + 1, by omega, by go_num, hown, K2.out⟩
          case measure => simp [intOf]; omega
    · obtain rfl : s = 5 := by omega
      go_wp2
      go_ret
      exact ⟨_, rfl, pairsAt_own (l := ivN) O1.out, K1.out⟩
end Go.Proofs.YteneoimkfddhpaaDoor
