/-
  Contracts of the document's answer for layer 4: are two the same.
-/
import Derived.Test.YtehpngppdcnohaaDoor4A
import Derived.Test.YtehpngppdcnohaaDoorGRuns
namespace Go.Proofs.YtehpngppdcnohaaDoor
open Go.RowKit
set_option linter.unusedVariables false
set_option linter.unusedSimpArgs false
theorem at_ext {l m : List R} (hn : l.length = m.length) (h : ∀ i, i < l.length → at_ l i = at_ m i) : l = m := by
  apply List.ext_getElem hn
  intro i h1 h2
  have := h i h1
  unfold at_ at this
  simpa [List.getD, h1, h2] using this
theorem same_ne {l m : List R} {k : Nat} (h : at_ l k ≠ at_ m k) : decide (l = m) = false := decide_eq_false fun e => h (by rw [e])
set_option maxHeartbeats 2000000 in
theorem rsame_any (v u : Value) (l m : List R) (w : World) (hv : RunsAt w v l) (hu : RunsAt w u m) (hn : l.length ≤ 4000000) (hn2 : m.length ≤ 4000000) :
    Calls Tryd.prog 22 #[v, u] w fun e w' => e = .returned (.bool (decide (l = m))) ∧ Kp w w' := by
  obtain ⟨ad, c, rfl⟩ := hv.slice
  obtain ⟨ad', c', rfl⟩ := hu.slice
  have HV := Lib.hid hv
  have HU := Lib.hid hu
  clear hv hu
  by_cases hlen : l.length = m.length
  · have q : ((l.length : Int) != (m.length : Int)) = false := by simp; omega
    have q' : ((l.length : Int) == (m.length : Int)) = true := by simp; omega
    have HLEN := Lib.hid hlen
    rw [← hlen] at q q' ⊢
    clear hlen
    go_enter Tryd.func22, Tryd.ntmps22
    go_wp2
    go_loopw [5] (fun i wr => ∃ k : Nat, k ≤ l.length ∧ i = .int .i64 k ∧ Hid (∀ i, i < k → at_ l i = at_ m i) ∧ Hid (Kp w wr)) (fun i _ => l.length - (intOf i).toNat)
    case atStart => exact ⟨0, by omega, rfl, Lib.hid (fun i h => by omega), Lib.hid (Kp.refl _)⟩
    case round =>
      obtain ⟨k, hk, rfl, EQ, K1⟩ := hrel
      by_cases hlt : k < l.length
      · rcases HV.out with ⟨_, _, _, e⟩ | ⟨b, off, cap, ev, hc, hm, hx⟩
        · rw [e] at hlt; simp at hlt
        rcases HU.out with ⟨_, _, _, e⟩ | ⟨b', off', cap', ev', hc', hm', hx'⟩
        · have := HLEN.out; rw [e] at this; simp at this; rw [this] at hlt; simp at hlt
        cases ev
        have ev2 := Lib.hid ev'
        rw [← HLEN.out] at ev'
        cases ev'
        obtain ⟨d1, d2⟩ := rd_at hx K1.out k hlt
        obtain ⟨d3, d4⟩ := rd_at hx' K1.out k (by rw [← HLEN.out]; exact hlt)
        clear hx hx' ev2
        obtain ⟨x1, x2, e1⟩ : ∃ x y, at_ l k = (x, y) := ⟨_, _, rfl⟩
        obtain ⟨y1, y2, e2⟩ : ∃ x y, at_ m k = (x, y) := ⟨_, _, rfl⟩
        have NE := Lib.hid (same_ne (l := l) (m := m) (k := k))
        rw [e1, e2] at NE
        have EE := Lib.hid (And.intro e1 e2)
        rw [e1] at d1 d2
        rw [e2] at d3 d4
        simp only at d1 d2 d3 d4
        clear e1 e2
        have z1 : (0 : Int) ≤ (k : Int) := by omega
        have z2 : (k : Int) < l.length := by omega
        by_cases a1 : x1 = y1
        · by_cases a2 : x2 = y2
          · subst a1 a2
            go_wp2_with fail
            go_quiet (fail)
            go_wp2
            go_roundw
            case rel => exact ⟨k + 1, by omega, by go_num, Lib.hid (fun i hi => by
              by_cases c : i < k
              · exact EQ.out i c
              · obtain rfl : i = k := by omega
                rw [EE.out.1, EE.out.2]), Lib.hid (K1.out.trans (Kp.drewN _ _))⟩
            case measure => simp [intOf]; omega
          · have N := Lib.hid (NE.out (fun h => a2 (Prod.mk.inj h).2))
            subst a1
            have q2 : (x2 == y2) = false := by simpa using a2
            go_wp2_with fail
            go_quiet (fail)
            go_wp2
            go_ret
            exact ⟨ret_bool N.out.symm, K1.out.trans (Kp.drewN _ _)⟩
        · have N := Lib.hid (NE.out (fun h => a1 (Prod.mk.inj h).1))
          have q1 : (x1 == y1) = false := by simpa using a1
          go_wp2_with fail
          go_quiet (fail)
          go_wp2
          go_ret
          exact ⟨ret_bool N.out.symm, K1.out.trans (Kp.drewN _ _)⟩
      · have D := Lib.hid (decide_eq_true (at_ext HLEN.out (fun i hi => EQ.out i (by omega))))
        have q3 : decide ((k : Int) < l.length) = false := by simp; omega
        go_wp2
        go_ret
        exact ⟨ret_bool D.out.symm, K1.out⟩
  · have q : ((l.length : Int) != (m.length : Int)) = true := by simp; omega
    have q' : ((l.length : Int) == (m.length : Int)) = false := by simp; omega
    have q2 : ¬ (l.length : Int) = (m.length : Int) := by omega
    have D := Lib.hid (decide_eq_false (fun e : l = m => hlen (by rw [e])))
    go_enter Tryd.func22, Tryd.ntmps22
    go_wp2
    go_ret
    exact ⟨ret_bool D.out.symm, Kp.refl _⟩
end Go.Proofs.YtehpngppdcnohaaDoor
