/-
  Contracts of package runs: Sane.
-/
import Derived.Test.YtndmohamjffpcaaDoorRunsA
import Derived.Test.YtndmohamjffpcaaDoorChecked
namespace Go.Proofs.YtndmohamjffpcaaDoor
open Go.RowKit
set_option linter.unusedVariables false
theorem saneB_yes {l : List R} (h : sane l) : saneB l = true := by unfold saneB; exact decide_eq_true h
theorem saneB_no {l : List R} (h : ¬ sane l) : saneB l = false := by unfold saneB; exact decide_eq_false h
/-- the first runs are a set's -/
def Pre (l : List R) (k : Nat) : Prop := ∀ i, i < k → okR (at_ l i) ∧ (0 < i → (at_ l (i - 1)).2 + 1 < (at_ l i).1)
theorem Pre.all {l : List R} (h : Pre l l.length) : sane l := (sane_idx l).2 h
theorem Pre.next {l : List R} {k : Nat} (h : Pre l k) (g : okR (at_ l k) ∧ (0 < k → (at_ l (k - 1)).2 + 1 < (at_ l k).1)) : Pre l (k + 1) := by
  intro i hi
  by_cases c : i < k
  · exact h i c
  · obtain rfl : i = k := by omega
    exact g
theorem not_sane {l : List R} {k : Nat} (hk : k < l.length) (h : ¬ (okR (at_ l k) ∧ (0 < k → (at_ l (k - 1)).2 + 1 < (at_ l k).1))) : saneB l = false :=
  saneB_no fun g => h ((sane_idx l).1 g k hk)

set_option maxHeartbeats 1000000 in
theorem sane_any (v : Value) (l : List R) (w : World) (hv : RunsAt w v l) (hl : I64R l) :
    Calls Tryd.prog 75 #[v] w fun e w' => e = .returned (.bool (saneB l)) ∧ Kp w w' := by
  rcases hv with ⟨ad0, cp0, rfl, rfl⟩ | ⟨b, off, cap, rfl, hc, hm, hx⟩
  · rw [saneB_yes (l := []) trivial]
    go_enter Tryd.func75, Tryd.ntmps75
    go_wp2
    go_loopw [7] (fun i wr => i = .int .i64 0 ∧ Kp w wr) (fun _ _ => 0)
    case atStart => exact ⟨rfl, Kp.refl _⟩
    case round =>
      obtain ⟨rfl, k1⟩ := hrel
      go_wp2
      go_ret
      exact ⟨rfl, k1⟩
  · have hm2 : l.length ≤ 9223372036854775807 := by unfold maxLen at hm; omega
    have HX := Lib.hid hx
    have HL := Lib.hid hl
    clear hx hl
    go_enter Tryd.func75, Tryd.ntmps75
    go_wp2
    go_loopw [7] (fun i wr => ∃ k : Nat, k ≤ l.length ∧ i = .int .i64 k ∧ Hid (Pre l k) ∧ Kp w wr) (fun i _ => l.length - (intOf i).toNat)
    case atStart => exact ⟨0, Nat.zero_le _, rfl, fun i hi => absurd hi (Nat.not_lt_zero _), Kp.refl _⟩
    case round =>
      obtain ⟨k, hk, rfl, P, k1⟩ := hrel
      have K1 := Lib.hid k1
      clear k1
      by_cases hlt : k < l.length
      · obtain ⟨c1, c2⟩ := HX.out k hlt
        have d1 := (Below.cell (p := ⟨b, off + k * 2, none⟩) K1.out (World.block_lt_of_cell? _ _ c1)).trans c1
        have d2 := (Below.cell (p := ⟨b, off + k * 2 + 1, none⟩) K1.out (World.block_lt_of_cell? _ _ c2)).trans c2
        clear c1 c2
        have bd := I64R.at_ HL.out hlt
        have N := Lib.hid (not_sane (l := l) hlt)
        have NX := Lib.hid (fun g => Pre.next P.out (k := k) (l := l) g)
        obtain ⟨lo, elo⟩ : ∃ x, x = (at_ l k).1 := ⟨_, rfl⟩
        obtain ⟨hi, ehi⟩ : ∃ x, x = (at_ l k).2 := ⟨_, rfl⟩
        rw [← elo] at d1 bd
        rw [← ehi] at d2 bd
        have E := Lib.hid (And.intro elo ehi)
        clear elo ehi
        by_cases ok : lo ≤ hi ∧ -1099511627776 ≤ lo ∧ hi ≤ 1099511627776
        · have okk : Hid (okR (at_ l k)) := by unfold Hid okR; rw [← E.out.1, ← E.out.2]; exact ok
          obtain ⟨o1, o2, o3⟩ := ok
          by_cases k0 : k = 0
          · have P2 := Lib.hid (NX.out ⟨okk.out, fun h => by omega⟩)
            have g1 : decide (0 < k) = false := by simp; omega
            have K0 := Lib.hid k0
            clear k0
            go_wp2
            go_quiet (fail)
            go_wp2
            go_roundw
            case rel => exact ⟨k + 1, by omega, by go_num, P2.out, K1.out.trans ((Kp.alloc _ _).trans (Kp.drewN _ _))⟩
            case measure => simp [intOf]; omega
          · have hlt2 : k - 1 < l.length := by omega
            obtain ⟨c1, c2⟩ := HX.out (k - 1) hlt2
            have d3 := (Below.cell (p := ⟨b, off + (k - 1) * 2 + 1, none⟩) K1.out (World.block_lt_of_cell? _ _ c2)).trans c2
            clear c1 c2
            have bd2 := (P.out (k - 1) (by omega)).1
            have bl : b < wr.heap.size := World.block_lt_of_cell? _ _ d3
            have bne : ¬ b = wr.heap.size := by omega
            obtain ⟨ph, eph⟩ : ∃ x, x = (at_ l (k - 1)).2 := ⟨_, rfl⟩
            obtain ⟨b1, b2, b3⟩ := bd2
            have b4 : -1099511627776 ≤ ph := by omega
            have b5 : ph ≤ 1099511627776 := by omega
            rw [← eph] at d3
            have E2 := Lib.hid eph
            clear eph b1 b2 b3
            have g1 : decide (0 < k) = true := by simp; omega
            have g0 : 0 < k := by omega
            have wr1 : IntKind.i64.wrap (ph + 1) = ph + 1 := by rw [IntKind.wrap_i64]; omega
            have wr0 : IntKind.i64.wrap ((k : Int) - 1) = ((k - 1 : Nat) : Int) := by rw [IntKind.wrap_i64]; omega
            have hlt3 : ((k - 1 : Nat) : Int) < l.length := by omega
            by_cases gp : ph + 1 < lo
            · have P2 := Lib.hid (NX.out ⟨okk.out, fun h => by rw [← E.out.1, ← E2.out]; exact gp⟩)
              have g2 : decide (lo ≤ ph + 1) = false := by simp; omega
              go_wp2
              go_quiet (fail)
              go_wp2
              go_roundw
              case rel => exact ⟨k + 1, by omega, by go_num, P2.out, K1.out.trans ((Kp.alloc _ _).trans (Kp.drewN _ _))⟩
              case measure => simp [intOf]; omega
            · have g2 : decide (lo ≤ ph + 1) = true := by simp; omega
              have bad : Hid (saneB l = false) := N.out fun g => gp (by have := g.2 (by omega); rw [E.out.1, E2.out]; exact this)
              go_wp2
              go_quiet (fail)
              go_wp2
              go_ret
              exact ⟨ret_bool bad.out.symm, K1.out.trans ((Kp.alloc _ _).trans (Kp.drewN _ _))⟩
        · have bad : Hid (saneB l = false) := N.out fun g => ok (by have := g.1; unfold okR at this; rw [← E.out.1, ← E.out.2] at this; exact this)
          have o : hi < lo ∨ (lo ≤ hi ∧ lo < -1099511627776) ∨ (lo ≤ hi ∧ -1099511627776 ≤ lo ∧ 1099511627776 < hi) := by omega
          clear ok
          rcases o with o1 | ⟨o1, o2⟩ | ⟨o1, o2, o3⟩
          all_goals
            go_wp2
            go_ret
            exact ⟨ret_bool bad.out.symm, K1.out.trans (Kp.alloc _ _)⟩
      · have A := Lib.hid (saneB_yes (Pre.all (l := l) (by have := P.out; rwa [show k = l.length by omega] at this)))
        go_wp2
        go_ret
        exact ⟨ret_bool A.out.symm, K1.out⟩
end Go.Proofs.YtndmohamjffpcaaDoor
