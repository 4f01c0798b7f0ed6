/-
  Contract of the document's comparison of two lists of numbers.
-/
import Derived.Test.YteneoimkfddhpaaDoorAllenRC
import Derived.Laws.OwnMore
namespace Go.Proofs.YteneoimkfddhpaaDoor
open Go.RowKit
set_option linter.unusedVariables false
/-- a slice of numbers, read in a world -/
def IntsAt (w : World) (v : Value) (l : List Int) : Prop := (v = .slice none 0 0 ∧ l = []) ∨ ∃ g cap, v = .slice (some ⟨g, 0, none⟩) l.length cap ∧ g < w.heap.size ∧ ∀ k : Nat, k < l.length → w.cell? ⟨g, k, none⟩ = some (.int .i64 (l.getD k 0))
theorem intsAt_own {w : World} {base : Nat} {e : TypeId} {v : Value} {l : List Int} (h : w.ownsRow base e 1 v l.length (cellsI l)) : IntsAt w v l := by
  rcases h.2 with ⟨rfl, h0⟩ | ⟨g, cap, cur, rfl, _, hg, _⟩
  · exact .inl ⟨rfl, List.eq_nil_of_length_eq_zero h0⟩
  · refine .inr ⟨g, cap, rfl, ?_, ?_⟩
    · exact (Array.getElem?_eq_some_iff.1 hg).1
    · intro k hk
      rw [h.cellAt k (by omega)]
      simp [cellsI, hk]
theorem IntsAt.kp {w w' : World} {v : Value} {l : List Int} (h : IntsAt w v l) (k : Kp w w') : IntsAt w' v l := by
  rcases h with h | ⟨g, cap, rfl, hg, hc⟩
  · exact .inl h
  · exact .inr ⟨g, cap, rfl, Nat.lt_of_lt_of_le hg k.size, fun j hj => by rw [k.cell (p := ⟨g, j, none⟩) hg]; exact hc j hj⟩
set_option maxHeartbeats 1000000 in
theorem refInts_same (l : List Int) (v u : Value) (w : World) (h1 : IntsAt w v l) (h2 : IntsAt w u l) (hl : l.length ≤ 13) :
    Calls Tryd.prog 25 #[v, u] w fun e w' => e = .returned (.bool true) ∧ Kp w w' := by
  rcases h1 with ⟨rfl, rfl⟩ | ⟨g, cap, rfl, hg, hc⟩
  · rcases h2 with ⟨rfl, _⟩ | ⟨g, cap, rfl, hg, hc⟩
    · go_enter Tryd.func25, Tryd.ntmps25
      go_wp2
      go_loopw [5] (fun i wr => i = .int .i64 0 ∧ wr = w) (fun _ _ => 0)
      case atStart => exact ⟨rfl, rfl⟩
      case round =>
        obtain ⟨rfl, rfl⟩ := hrel
        go_wp2
        go_ret
        exact ⟨rfl, Kp.refl _⟩
    · clear hc
      go_enter Tryd.func25, Tryd.ntmps25
      go_wp2
      go_loopw [5] (fun i wr => i = .int .i64 0 ∧ wr = w) (fun _ _ => 0)
      case atStart => exact ⟨rfl, rfl⟩
      case round =>
        obtain ⟨rfl, rfl⟩ := hrel
        go_wp2
        go_ret
        exact ⟨rfl, Kp.refl _⟩
  · rcases h2 with ⟨rfl, rfl⟩ | ⟨g2, cap2, rfl, hg2, hc2⟩
    · clear hc
      go_enter Tryd.func25, Tryd.ntmps25
      go_wp2
      go_loopw [5] (fun i wr => i = .int .i64 0 ∧ wr = w) (fun _ _ => 0)
      case atStart => exact ⟨rfl, rfl⟩
      case round =>
        obtain ⟨rfl, rfl⟩ := hrel
        go_wp2
        go_ret
        exact ⟨rfl, Kp.refl _⟩
    · generalize hn : l.length = n at *
      go_enter Tryd.func25, Tryd.ntmps25
      go_wp2
      go_loopw [5] (fun i wr => ∃ k : Nat, k ≤ n ∧ i = .int .i64 k ∧ Kp w wr) (fun i _ => n - (intOf i).toNat)
      case atStart => exact ⟨0, by omega, rfl, Kp.refl _⟩
      case round =>
        obtain ⟨k, hk, rfl, k1⟩ := hrel
        have K1 := Lib.hid k1
        clear k1
        by_cases hlt : k < n
        · have c1 : wr.cell? ⟨g, k, none⟩ = some (.int .i64 (l.getD k 0)) := by rw [K1.out.cell (p := ⟨g, k, none⟩) hg]; exact hc k hlt
          have c2 : wr.cell? ⟨g2, k, none⟩ = some (.int .i64 (l.getD k 0)) := by rw [K1.out.cell (p := ⟨g2, k, none⟩) hg2]; exact hc2 k hlt
          generalize l.getD k 0 = x at *
          clear hc hc2 hn
          go_wp2
          go_quiet (fail)
          go_wp2
          go_roundw
          case rel => exact ⟨k + 1, by omega, by go_num, K1.out.trans (Kp.drewN _ _)⟩
          case measure => simp [intOf]; omega
        · obtain rfl : k = n := by omega
          clear hc hc2 hn
          go_wp2
          go_ret
          exact ⟨rfl, K1.out⟩
end Go.Proofs.YteneoimkfddhpaaDoor
