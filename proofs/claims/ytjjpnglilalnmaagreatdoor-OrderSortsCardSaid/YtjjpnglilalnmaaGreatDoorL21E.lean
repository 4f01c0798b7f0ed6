/-
  Layer 21: are lists of families few?
-/
import Derived.Test.YtjjpnglilalnmaaGreatDoorGOrdB
namespace Go.Proofs.YtjjpnglilalnmaaGreatDoor
open Go.RowKit
set_option linter.unusedVariables false
set_option linter.unusedSimpArgs false
def fewLL (LL : List (List LF)) : Bool := LL.all fewL && decide (LL.length ≤ 20)
theorem fewLL_no {LL : List (List LF)} {k : Nat} (h : k < LL.length) (g : fewL (lls LL k) = false) : fewLL LL = false := by
  unfold fewLL
  rw [Bool.and_eq_false_iff]
  left
  rw [List.all_eq_false]
  exact ⟨_, lls_mem h, by rw [g]; decide⟩
theorem fewLL_yes {LL : List (List LF)} (h : ∀ i, i < LL.length → fewL (lls LL i) = true) : fewLL LL = decide (LL.length ≤ 20) := by
  unfold fewLL
  have : LL.all fewL = true := by
    rw [List.all_eq_true]
    intro f hf
    obtain ⟨i, hi, rfl⟩ := List.mem_iff_getElem.1 hf
    have := h i hi
    unfold lls at this
    rwa [List.getD_eq_getElem?_getD, List.getElem?_eq_getElem hi] at this
  rw [this]
  rfl
theorem fewLL_ok {LL : List (List LF)} (h : fewLL LL = true) (g : ∀ l ∈ LL, ∀ f ∈ l, LeafG f) : (∀ l ∈ LL, LsOk l) ∧ LL.length ≤ 20 := by
  unfold fewLL at h
  rw [Bool.and_eq_true, List.all_eq_true] at h
  exact ⟨fun l hl => (fewL_ok (h.1 l hl) (g l hl)).1, of_decide_eq_true h.2⟩
set_option maxHeartbeats 16000000 in
set_option maxRecDepth 100000 in
theorem few21_any (v : Value) (LL : List (List LF)) (w : World) (hv : LvsAt w v LL) :
    Calls Tryz.prog 16 #[v] w fun e w' => e = .returned (.bool (fewLL LL)) ∧ Kp w w' := by
  have hm := hv.len
  unfold maxLen at hm
  obtain ⟨ad, cp, rfl⟩ := hv.slice
  have HV := Lib.hid hv
  have NO := Lib.hid (fun k (h : k < LL.length) g => fewLL_no (LL := LL) h g)
  have YES := Lib.hid (fun h => fewLL_yes (LL := LL) h)
  have Z0 := Lib.hid (Kp.refl w)
  clear hv
  generalize fewLL LL = r at *
  go_enter Tryz.func16, Tryz.ntmps16
  go_wp2
  go_loopw [3] (fun i wr => ∃ k : Nat, k ≤ LL.length ∧ i = .int .i64 k ∧ Hid (∀ i, i < k → fewL (lls LL i) = true) ∧ Hid (Kp w wr)) (fun i _ => LL.length - (intOf i).toNat)
  case atStart => exact ⟨0, Nat.zero_le _, rfl, Lib.hid (fun i h => by omega), Z0⟩
  case round =>
    obtain ⟨k, hk, rfl, FA, J⟩ := hrel
    by_cases hlt : k < LL.length
    · rcases HV.out.kp J.out with ⟨_, _, _, e⟩ | ⟨b, off, cap, ev, hc, hmx, hx⟩
      · rw [e] at hlt; simp at hlt
      cases ev
      obtain ⟨u, c0, ru⟩ := hx k hlt
      obtain ⟨ua, uc, rfl⟩ := ru.slice
      have z1 : (k : Int) < (LL.length : Int) := by omega
      have z2 : (0 : Int) ≤ (k : Int) := by omega
      have C := Lib.hid (fun w1 (kk : Kp wr w1) => fewL_any _ (lls LL k) w1 (ru.kp kk))
      have N := Lib.hid (fun g => NO.out k hlt g)
      have Y := Lib.hid (fun (g : fewL (lls LL k) = true) => (fun i (hi : i < k + 1) => by
        by_cases e : i = k
        · subst e; exact g
        · exact FA.out i (by omega) : ∀ i, i < k + 1 → fewL (lls LL i) = true))
      have KR := Lib.hid (Kp.refl wr)
      generalize fewL (lls LL k) = fb at *
      clear hx hc hmx ru
      cases fb with
      | false =>
        obtain rfl := N.out rfl
        go_wp2_with fail
        refine (C.out _ (by first | with_reducible exact KR.out | with_reducible exact KR.out.trans (Kp.alloc _ _) | with_reducible exact (KR.out.trans (Kp.alloc _ _)).trans (Kp.alloc _ _) | with_reducible exact ((KR.out.trans (Kp.alloc _ _)).trans (Kp.alloc _ _)).trans (Kp.alloc _ _) | with_reducible exact KR.out.trans (Kp.drew _) | with_reducible exact KR.out.trans (Kp.drewN _ _))).mono ?_
        rintro e w1 ⟨rfl, kk⟩
        have J1 := Lib.hid (J.out.trans ((show Kp wr _ from (by first | with_reducible exact KR.out | with_reducible exact KR.out.trans (Kp.alloc _ _) | with_reducible exact (KR.out.trans (Kp.alloc _ _)).trans (Kp.alloc _ _) | with_reducible exact ((KR.out.trans (Kp.alloc _ _)).trans (Kp.alloc _ _)).trans (Kp.alloc _ _) | with_reducible exact KR.out.trans (Kp.drew _) | with_reducible exact KR.out.trans (Kp.drewN _ _))).trans kk))
        clear kk
        go_wp2
        go_ret
        exact ⟨rfl, J1.out⟩
      | true =>
        have FA2 := Lib.hid (Y.out rfl)
        go_wp2_with fail
        refine (C.out _ (by first | with_reducible exact KR.out | with_reducible exact KR.out.trans (Kp.alloc _ _) | with_reducible exact (KR.out.trans (Kp.alloc _ _)).trans (Kp.alloc _ _) | with_reducible exact ((KR.out.trans (Kp.alloc _ _)).trans (Kp.alloc _ _)).trans (Kp.alloc _ _) | with_reducible exact KR.out.trans (Kp.drew _) | with_reducible exact KR.out.trans (Kp.drewN _ _))).mono ?_
        rintro e w1 ⟨rfl, kk⟩
        have J1 := Lib.hid (J.out.trans ((show Kp wr _ from (by first | with_reducible exact KR.out | with_reducible exact KR.out.trans (Kp.alloc _ _) | with_reducible exact (KR.out.trans (Kp.alloc _ _)).trans (Kp.alloc _ _) | with_reducible exact ((KR.out.trans (Kp.alloc _ _)).trans (Kp.alloc _ _)).trans (Kp.alloc _ _) | with_reducible exact KR.out.trans (Kp.drew _) | with_reducible exact KR.out.trans (Kp.drewN _ _))).trans kk))
        clear kk
        go_wp2
        go_roundw
        case rel => exact ⟨k + 1, by omega, by go_num, FA2, J1⟩
        case measure => simp [intOf]; omega
    · obtain rfl : k = LL.length := by omega
      have q := YES.out FA.out
      have E : decide ((LL.length : Int) ≤ 20) = decide (LL.length ≤ 20) := by
        by_cases h : LL.length ≤ 20
        · rw [decide_eq_true h, decide_eq_true (by omega)]
        · rw [decide_eq_false h, decide_eq_false (by omega)]
      have Q := Lib.hid (E.trans q.symm)
      clear q E
      go_wp2
      go_ret
      exact ⟨by first | rfl | (rewrite [← Q.out]; rfl) | (congr 2; exact Q.out) | (simp [Q.out]), J.out⟩
end Go.Proofs.YtjjpnglilalnmaaGreatDoor
