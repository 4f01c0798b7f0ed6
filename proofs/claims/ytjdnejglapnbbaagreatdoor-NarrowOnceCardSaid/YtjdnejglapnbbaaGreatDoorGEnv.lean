/-
  Joined: EnvA, EnvB, EnvC, EnvD, EnvE, EnvF, Lrow.
-/
import Derived.Test.YtjdnejglapnbbaaGreatDoorGOpen
import Derived.Test.YtjdnejglapnbbaaGreatDoorGLeafA
import Derived.Deep.RegionHeld3
import Derived.LoopTactic
import Derived.Shelf.Abstract
import Derived.Laws.EntriesVeiled
import Derived.Test.YtjdnejglapnbbaaGreatDoorGLeafB
import Derived.Test.YtjdnejglapnbbaaGreatDoorGBa
namespace Go.Proofs.YtjdnejglapnbbaaGreatDoor
open Go.RowKit
set_option linter.unusedVariables false
set_option linter.unusedSimpArgs false
theorem nxt_low {s : List R} (h : sane s) (h0 : 0 < s.length) : nxt s (-1099511627776) = (leastR s, true) := by
  have o := sane_ok h _ (at_mem h0)
  unfold okR at o
  rw [nxt_at s (-1099511627776) 0 (by omega) (fun k hk => by omega) (fun _ => by omega), if_neg (by omega)]
  unfold leastR
  rw [show max (-1099511627776) (at_ s 0).1 = (at_ s 0).1 by omega]
theorem prv_high {s : List R} (h : sane s) (h0 : 0 < s.length) : prv s 1099511627776 = (greatR s, true) := by
  have o := sane_ok h _ (at_mem (show s.length - 1 < s.length by omega))
  unfold okR at o
  rw [prv_at s 1099511627776 s.length (Nat.le_refl _) (fun k hk => by omega) (fun _ => by omega), if_neg (by omega)]
  unfold greatR
  rw [show min 1099511627776 (at_ s (s.length - 1)).2 = (at_ s (s.length - 1)).2 by omega]
end Go.Proofs.YtjdnejglapnbbaaGreatDoor

namespace Go.Proofs.YtjdnejglapnbbaaGreatDoor
open Go.RowKit
set_option linter.unusedVariables false
set_option linter.unusedSimpArgs false
/-- lists of leaves that are small -/
def LsOk (l : List LF) : Prop := ∀ f ∈ l, I64R f.a ∧ I64R f.b ∧ f.a.length ≤ 1000 ∧ f.b.length ≤ 1000
theorem fir_day {n : Int} (h : 0 ≤ n ∧ n < cnt 0) : firV 0 n = n := by rw [firV_yes h.1 h.2, fst_zero]
theorem las_day {n : Int} (h : 0 ≤ n ∧ n < cnt 0) : lasV 0 n = n := by rw [lasV_yes h.1 h.2, lst_zero]
end Go.Proofs.YtjdnejglapnbbaaGreatDoor

namespace Go.Proofs.YtjdnejglapnbbaaGreatDoor
open Go.RowKit
set_option linter.unusedVariables false
set_option linter.unusedSimpArgs false
end Go.Proofs.YtjdnejglapnbbaaGreatDoor

namespace Go.Proofs.YtjdnejglapnbbaaGreatDoor
open Go.RowKit
set_option linter.unusedVariables false
set_option linter.unusedSimpArgs false
/-- is a pair one of theirs? -/
noncomputable def hasL (l : List LF) (S T : Int) : Bool := l.any fun f => hasF (famR f) S T
end Go.Proofs.YtjdnejglapnbbaaGreatDoor

namespace Go.Proofs.YtjdnejglapnbbaaGreatDoor
open Go.RowKit
set_option linter.unusedVariables false
set_option linter.unusedSimpArgs false
def fewL (l : List LF) : Bool := l.all fewB && decide (l.length ≤ 12)
theorem fewL_no {l : List LF} {k : Nat} (h : k < l.length) (g : fewB (lat l k) = false) : fewL l = false := by
  unfold fewL
  rw [Bool.and_eq_false_iff]
  left
  rw [List.all_eq_false]
  exact ⟨_, lat_mem h, by rw [g]; decide⟩
theorem fewL_yes {l : List LF} (h : ∀ i, i < l.length → fewB (lat l i) = true) : fewL l = decide (l.length ≤ 12) := by
  unfold fewL
  have : l.all fewB = true := by
    rw [List.all_eq_true]
    intro f hf
    obtain ⟨i, hi, rfl⟩ := List.mem_iff_getElem.1 hf
    have := h i hi
    unfold lat at this
    rwa [List.getD_eq_getElem?_getD, List.getElem?_eq_getElem hi] at this
  rw [this]
  rfl
theorem fewL_ok {l : List LF} (h : fewL l = true) (g : ∀ f ∈ l, LeafG f) : LsOk l ∧ l.length ≤ 12 := by
  unfold fewL at h
  rw [Bool.and_eq_true, List.all_eq_true] at h
  refine ⟨fun f hf => ?_, of_decide_eq_true h.2⟩
  have := fewB_yes (h.1 f hf)
  have := g f hf
  exact ⟨this.1, this.2.1, by omega, by omega⟩
set_option maxHeartbeats 16000000 in
set_option maxRecDepth 100000 in
theorem fewL_any (v : Value) (l : List LF) (w : World) (hv : LeavesAt w v l) :
    Calls Tryz.prog 21 #[v] w fun e w' => e = .returned (.bool (fewL l)) ∧ Kp w w' := by
  have hm := hv.len
  unfold maxLen at hm
  obtain ⟨ad, cp, rfl⟩ := hv.slice
  have HV := Lib.hid hv
  have NO := Lib.hid (fun k (h : k < l.length) g => fewL_no (l := l) h g)
  have YES := Lib.hid (fun h => fewL_yes (l := l) h)
  have HL : Hid (∀ f ∈ l, True) := Lib.hid (fun _ _ => trivial)
  have Z0 := Lib.hid (Kp.refl w)
  clear hv
  generalize fewL l = r at *
  go_enter Tryz.func21, Tryz.ntmps21
  go_wp2
  go_loopw [3] (fun i wr => ∃ k : Nat, k ≤ l.length ∧ i = .int .i64 k ∧ Hid (∀ i, i < k → fewB (lat l i) = true) ∧ Hid (Kp w wr)) (fun i _ => l.length - (intOf i).toNat)
  case atStart => exact ⟨0, Nat.zero_le _, rfl, Lib.hid (fun i h => by omega), Z0⟩
  case round =>
    obtain ⟨k, hk, rfl, FA, J⟩ := hrel
    by_cases hlt : k < l.length
    · rcases HV.out.kp J.out with ⟨_, _, _, e⟩ | ⟨b0, off, cap, ev, hc, hmx, hx⟩
      · rw [e] at hlt; simp at hlt
      cases ev
      obtain ⟨va, vb, d0, d1, d2, d3, ra, rb⟩ := hx k hlt
      have LOK := HL.out _ (lat_mem hlt)
      obtain ⟨f, hf⟩ : ∃ f, lat l k = f := ⟨_, rfl⟩
      rw [hf] at d0 d1 ra rb
      (try rw [hf] at LOK)
      obtain ⟨sp, u, a, b⟩ := f
      simp only at d0 d1 ra rb
      (try simp only at LOK)
      obtain ⟨aa, ca, rfl⟩ := ra.slice
      obtain ⟨ab, cb, rfl⟩ := rb.slice
      have HF := Lib.hid hf
      have z1 : (k : Int) < (l.length : Int) := by omega
      have z2 : (0 : Int) ≤ (k : Int) := by omega
      clear hx hc hmx hf
      have C := Lib.hid (fun w1 (kk : Kp wr w1) => few_any ⟨sp, u, a, b⟩ _ _ w1 (ra.kp kk) (rb.kp kk))
      simp only [leafV] at C
      have N := Lib.hid (fun g => NO.out k hlt (show fewB (lat l k) = false by rw [HF.out]; exact g))
      have Y := Lib.hid (fun (g : fewB ⟨sp, u, a, b⟩ = true) => (by rw [HF.out]; exact g : fewB (lat l k) = true))
      generalize fewB ⟨sp, u, a, b⟩ = fb at *
      have KR := Lib.hid (Kp.refl wr)
      clear ra rb NO
      cases fb with
      | false =>
        have hr := N.out (by first | rfl | trivial)
        subst hr
        go_wp2_with fail
        refine (C.out _ (by first | with_reducible exact KR.out | with_reducible exact KR.out.trans (Kp.alloc _ _) | with_reducible exact (KR.out.trans (Kp.alloc _ _)).trans (Kp.alloc _ _) | with_reducible exact ((KR.out.trans (Kp.alloc _ _)).trans (Kp.alloc _ _)).trans (Kp.alloc _ _) | with_reducible exact KR.out.trans (Kp.drew _) | with_reducible exact KR.out.trans (Kp.drewN _ _))).mono ?_
        rintro e w1 ⟨rfl, kk⟩
        have J1 := Lib.hid (J.out.trans ((show Kp wr _ from (by first | with_reducible exact KR.out | with_reducible exact KR.out.trans (Kp.alloc _ _) | with_reducible exact (KR.out.trans (Kp.alloc _ _)).trans (Kp.alloc _ _) | with_reducible exact ((KR.out.trans (Kp.alloc _ _)).trans (Kp.alloc _ _)).trans (Kp.alloc _ _) | with_reducible exact KR.out.trans (Kp.drew _) | with_reducible exact KR.out.trans (Kp.drewN _ _))).trans kk))
        go_wp2
        go_ret
        exact ⟨rfl, J1.out⟩
      | true =>
        go_wp2_with fail
        refine (C.out _ (by first | with_reducible exact KR.out | with_reducible exact KR.out.trans (Kp.alloc _ _) | with_reducible exact (KR.out.trans (Kp.alloc _ _)).trans (Kp.alloc _ _) | with_reducible exact ((KR.out.trans (Kp.alloc _ _)).trans (Kp.alloc _ _)).trans (Kp.alloc _ _) | with_reducible exact KR.out.trans (Kp.drew _) | with_reducible exact KR.out.trans (Kp.drewN _ _))).mono ?_
        rintro e w1 ⟨rfl, kk⟩
        have J1 := Lib.hid (J.out.trans ((show Kp wr _ from (by first | with_reducible exact KR.out | with_reducible exact KR.out.trans (Kp.alloc _ _) | with_reducible exact (KR.out.trans (Kp.alloc _ _)).trans (Kp.alloc _ _) | with_reducible exact ((KR.out.trans (Kp.alloc _ _)).trans (Kp.alloc _ _)).trans (Kp.alloc _ _) | with_reducible exact KR.out.trans (Kp.drew _) | with_reducible exact KR.out.trans (Kp.drewN _ _))).trans kk))
        clear kk
        go_wp2
        go_roundw
        case rel => exact ⟨k + 1, by omega, by go_num, Lib.hid (fun i hi => by
          by_cases c : i < k
          · exact FA.out i c
          · obtain rfl : i = k := by omega
            exact Y.out (by first | rfl | trivial)), J1⟩
        case measure => simp [intOf]; omega
    · obtain rfl : k = l.length := by omega
      have hr := YES.out FA.out
      have e1 : decide ((l.length : Int) ≤ 12) = r := by
        rw [hr]
        by_cases h : l.length ≤ 12
        · rw [decide_eq_true h, decide_eq_true (by omega)]
        · rw [decide_eq_false h, decide_eq_false (by omega)]
      have e2 : decide (l.length ≤ 12) = r := hr.symm
      clear hr
      go_wp2
      go_ret
      exact ⟨by first | rfl | simp [e1, e2] | simp, J.out⟩
theorem hasL_no {l : List LF} {S T : Int} (h : ∀ i, i < l.length → hasF (famR (lat l i)) S T = false) : hasL l S T = false := by
  unfold hasL
  rw [List.any_eq_false]
  intro f hf
  obtain ⟨i, hi, rfl⟩ := List.mem_iff_getElem.1 hf
  have := h i hi
  unfold lat at this
  rw [List.getD_eq_getElem?_getD, List.getElem?_eq_getElem hi] at this
  rw [show (some l[i]).getD _ = l[i] from rfl] at this
  rw [this]
  decide
theorem hasL_yes {l : List LF} {S T : Int} {k : Nat} (h : k < l.length) (g : hasF (famR (lat l k)) S T = true) : hasL l S T = true := List.any_eq_true.2 ⟨_, lat_mem h, g⟩
set_option maxHeartbeats 16000000 in
set_option maxRecDepth 100000 in
theorem denHas_any (v : Value) (l : List LF) (S T : Int) (w : World) (hv : LeavesAt w v l) (hl : LsOk l) (T' : Tabs w) (b1 : -9223372036854775808 ≤ S) (b2 : S ≤ 9223372036854775807) (b3 : -9223372036854775808 ≤ T) (b4 : T ≤ 9223372036854775807) :
    Calls Tryz.prog 32 #[v, .agg #[.int .i64 S, .int .i64 T]] w fun e w' => e = .returned (.bool (hasL l S T)) ∧ Kp w w' := by
  have hm := hv.len
  unfold maxLen at hm
  obtain ⟨ad, cp, rfl⟩ := hv.slice
  have HV := Lib.hid hv
  have NO := Lib.hid (fun h => hasL_no (l := l) (S := S) (T := T) h)
  have YES := Lib.hid (fun k (h : k < l.length) g => hasL_yes (l := l) (S := S) (T := T) h g)
  have HL := Lib.hid hl
  have TT := Lib.hid T'
  obtain ⟨W0, hW⟩ : ∃ W0, W0 = w.alloc (.cells #[.int .i64 S, .int .i64 T] 35) := ⟨_, rfl⟩
  have k0 : Kp w W0 := by rw [hW]; exact Kp.alloc _ _
  have HB := Lib.hid (fun w1 (k : Kp W0 w1) => show w1.cell? ⟨w.heap.size, 0, none⟩ = some (.int .i64 S) ∧ w1.cell? ⟨w.heap.size, 1, none⟩ = some (.int .i64 T) from ⟨cell_up k (by rw [hW]; simp), cell_up k (by rw [hW]; simp)⟩)
  have K0 := Lib.hid k0
  have HW := Lib.hid hW
  have KW := Lib.hid (Kp.refl W0)
  clear hv T' hl hW k0
  generalize hasL l S T = r at *
  go_enter Tryz.func32, Tryz.ntmps32
  go_wp2_with fail
  rw [← HW.out]
  go_loopw [9] (fun i wr => ∃ k : Nat, k ≤ l.length ∧ i = .int .i64 k ∧ Hid (∀ i, i < k → hasF (famR (lat l i)) S T = false) ∧ Hid (Kp W0 wr)) (fun i _ => l.length - (intOf i).toNat)
  case atStart => exact ⟨0, Nat.zero_le _, rfl, Lib.hid (fun i h => by omega), KW⟩
  case round =>
    obtain ⟨k, hk, rfl, FA, J⟩ := hrel
    by_cases hlt : k < l.length
    · rcases HV.out.kp (K0.out.trans J.out) with ⟨_, _, _, e⟩ | ⟨b0, off, cap, ev, hc, hmx, hx⟩
      · rw [e] at hlt; simp at hlt
      cases ev
      obtain ⟨va, vb, d0, d1, d2, d3, ra, rb⟩ := hx k hlt
      have LOK := HL.out _ (lat_mem hlt)
      obtain ⟨f, hf⟩ : ∃ f, lat l k = f := ⟨_, rfl⟩
      rw [hf] at d0 d1 ra rb
      (try rw [hf] at LOK)
      obtain ⟨sp, u, a, b⟩ := f
      simp only at d0 d1 ra rb
      (try simp only at LOK)
      obtain ⟨aa, ca, rfl⟩ := ra.slice
      obtain ⟨ab, cb, rfl⟩ := rb.slice
      have HF := Lib.hid hf
      have z1 : (k : Int) < (l.length : Int) := by omega
      have z2 : (0 : Int) ≤ (k : Int) := by omega
      clear hx hc hmx hf
      have ok : LeafOk wr ⟨sp, u, a, b⟩ _ _ := ⟨ra, rb, LOK.1, LOK.2.1, LOK.2.2.1, LOK.2.2.2⟩
      have C := Lib.hid (fun w1 (kk : Kp wr w1) => leafHas_any ⟨sp, u, a, b⟩ _ _ S T w1 (ok.kp kk) (TT.out.kp (K0.out.trans (J.out.trans kk))) b1 b2 b3 b4)
      simp only [leafV] at C
      have Y := Lib.hid (fun g => YES.out k hlt (show hasF (famR (lat l k)) S T = true by rw [HF.out]; exact g))
      have N := Lib.hid (fun (g : hasF (famR ⟨sp, u, a, b⟩) S T = false) => (by rw [HF.out]; exact g : hasF (famR (lat l k)) S T = false))
      generalize hasF (famR ⟨sp, u, a, b⟩) S T = fb at *
      have KR := Lib.hid (Kp.refl wr)
      obtain ⟨c0, c1⟩ := HB.out wr J.out
      have cz0 := c0
      have zs := World.block_lt_of_cell? wr _ c0
      have zs' : ¬ w.heap.size = wr.heap.size := by simp at zs; omega
      clear ra rb YES ok cz0
      cases fb with
      | true =>
        have hr := Y.out (by first | rfl | trivial)
        subst hr
        go_wp2_with fail
        refine (C.out _ (by first | with_reducible exact KR.out | with_reducible exact KR.out.trans (Kp.alloc _ _) | with_reducible exact (KR.out.trans (Kp.alloc _ _)).trans (Kp.alloc _ _) | with_reducible exact ((KR.out.trans (Kp.alloc _ _)).trans (Kp.alloc _ _)).trans (Kp.alloc _ _) | with_reducible exact KR.out.trans (Kp.drew _) | with_reducible exact KR.out.trans (Kp.drewN _ _))).mono ?_
        rintro e w1 ⟨rfl, kk⟩
        have J1 := Lib.hid (K0.out.trans (J.out.trans ((show Kp wr _ from (by first | with_reducible exact KR.out | with_reducible exact KR.out.trans (Kp.alloc _ _) | with_reducible exact (KR.out.trans (Kp.alloc _ _)).trans (Kp.alloc _ _) | with_reducible exact ((KR.out.trans (Kp.alloc _ _)).trans (Kp.alloc _ _)).trans (Kp.alloc _ _) | with_reducible exact KR.out.trans (Kp.drew _) | with_reducible exact KR.out.trans (Kp.drewN _ _))).trans kk)))
        go_wp2
        go_ret
        exact ⟨rfl, J1.out⟩
      | false =>
        go_wp2_with fail
        refine (C.out _ (by first | with_reducible exact KR.out | with_reducible exact KR.out.trans (Kp.alloc _ _) | with_reducible exact (KR.out.trans (Kp.alloc _ _)).trans (Kp.alloc _ _) | with_reducible exact ((KR.out.trans (Kp.alloc _ _)).trans (Kp.alloc _ _)).trans (Kp.alloc _ _) | with_reducible exact KR.out.trans (Kp.drew _) | with_reducible exact KR.out.trans (Kp.drewN _ _))).mono ?_
        rintro e w1 ⟨rfl, kk⟩
        have J1 := Lib.hid (J.out.trans ((show Kp wr _ from (by first | with_reducible exact KR.out | with_reducible exact KR.out.trans (Kp.alloc _ _) | with_reducible exact (KR.out.trans (Kp.alloc _ _)).trans (Kp.alloc _ _) | with_reducible exact ((KR.out.trans (Kp.alloc _ _)).trans (Kp.alloc _ _)).trans (Kp.alloc _ _) | with_reducible exact KR.out.trans (Kp.drew _) | with_reducible exact KR.out.trans (Kp.drewN _ _))).trans kk))
        clear kk
        go_wp2
        go_roundw
        case rel => exact ⟨k + 1, by omega, by go_num, Lib.hid (fun i hi => by
          by_cases c : i < k
          · exact FA.out i c
          · obtain rfl : i = k := by omega
            exact N.out (by first | rfl | trivial)), J1⟩
        case measure => simp [intOf]; omega
    · obtain rfl : k = l.length := by omega
      have hr := NO.out FA.out
      subst hr
      go_wp2
      go_ret
      exact ⟨rfl, K0.out.trans J.out⟩
end Go.Proofs.YtjdnejglapnbbaaGreatDoor

namespace Go.Proofs.YtjdnejglapnbbaaGreatDoor
open Go.RowKit
set_option linter.unusedVariables false
set_option linter.unusedSimpArgs false
end Go.Proofs.YtjdnejglapnbbaaGreatDoor

namespace Go.Proofs.YtjdnejglapnbbaaGreatDoor
open Go.RowKit
set_option linter.unusedVariables false
set_option linter.unusedSimpArgs false
abbrev VV := Value × Value
/-- the cells of leaves, their slices given -/
def cellsV : List (LF × VV) → List Value
  | [] => []
  | (f, x) :: t => .bool f.sp :: .int .i64 f.u :: x.1 :: x.2 :: cellsV t
theorem cellsV_length : ∀ l : List (LF × VV), (cellsV l).length = l.length * 4 := by
  intro l
  induction l with
  | nil => rfl
  | cons f t ih => obtain ⟨f, x⟩ := f; unfold cellsV; simp [ih]; omega
theorem cellsV_append (l m : List (LF × VV)) : cellsV (l ++ m) = cellsV l ++ cellsV m := by
  induction l with
  | nil => rfl
  | cons f t ih => obtain ⟨f, x⟩ := f; simp only [List.cons_append, cellsV, ih]
/-- the slices read -/
def ReadsV (w : World) (l : List (LF × VV)) : Prop := ∀ p ∈ l, RunsAt w p.2.1 p.1.a ∧ RunsAt w p.2.2 p.1.b
theorem ReadsV.kp {w w' : World} {l : List (LF × VV)} (h : ReadsV w l) (k : Kp w w') : ReadsV w' l := fun p hp => ⟨(h p hp).1.kp k, (h p hp).2.kp k⟩
theorem ReadsV.append {w : World} {l m : List (LF × VV)} (h : ReadsV w l) (g : ReadsV w m) : ReadsV w (l ++ m) := fun p hp => (List.mem_append.1 hp).elim (h p) (g p)
theorem cellsV_at : ∀ (l : List (LF × VV)) (i : Nat) (h : i < l.length), (cellsV l)[i * 4]? = some (.bool (l[i]'h).1.sp) ∧ (cellsV l)[i * 4 + 1]? = some (.int .i64 (l[i]'h).1.u) ∧ (cellsV l)[i * 4 + 2]? = some (l[i]'h).2.1 ∧ (cellsV l)[i * 4 + 3]? = some (l[i]'h).2.2 := by
  intro l
  induction l with
  | nil => intro i h; simp at h
  | cons f t ih =>
    intro i h
    obtain ⟨f, x⟩ := f
    unfold cellsV
    cases i with
    | zero => exact ⟨rfl, rfl, rfl, rfl⟩
    | succ i =>
      have g := ih i (by simpa using h)
      rw [show (i + 1) * 4 = i * 4 + 1 + 1 + 1 + 1 by omega]
      simp only [List.getElem?_cons_succ, List.getElem_cons_succ]
      exact g
theorem runs_one {w : World} {v : Value} {l : List R} (h : RunsAt w v l) : v.oneCell' = true := by
  obtain ⟨ad, c, rfl⟩ := h.slice
  rfl
theorem cellsV_one {w : World} : ∀ {l : List (LF × VV)}, ReadsV w l → ∀ u ∈ cellsV l, u.oneCell' = true := by
  intro l
  induction l with
  | nil => intro _ u hu; cases hu
  | cons f t ih =>
    intro h u hu
    obtain ⟨f, x⟩ := f
    have h0 := h (f, x) List.mem_cons_self
    unfold cellsV at hu
    simp only [List.mem_cons] at hu
    rcases hu with rfl | rfl | rfl | rfl | hu
    · rfl
    · rfl
    · exact runs_one h0.1
    · exact runs_one h0.2
    · exact ih (fun p hp => h p (List.mem_cons_of_mem _ hp)) u hu
theorem leaves_vals {w : World} {l : List LF} (b off : Nat) : (∀ i, i < l.length → LeafCells w b (off + i * 4) (lat l i)) → ∃ m : List (LF × VV), m.map Prod.fst = l ∧ ReadsV w m ∧ ∀ j u, (cellsV m)[j]? = some u → w.cell? ⟨b, off + j, none⟩ = some u := by
  induction l generalizing off with
  | nil => intro _; exact ⟨[], rfl, fun p hp => (by cases hp), fun j u hu => (by simp [cellsV] at hu)⟩
  | cons f t ih =>
    intro h
    obtain ⟨va, vb, c0, c1, c2, c3, ra, rb⟩ := h 0 (by simp)
    obtain ⟨m, hm, hr, hc⟩ := ih (off + 4) (fun i hi => by
      have := h (i + 1) (by simpa using hi)
      rw [show off + (i + 1) * 4 = off + 4 + i * 4 by omega] at this
      exact this)
    have e0 : lat (f :: t) 0 = f := rfl
    rw [e0] at c0 c1 ra rb
    refine ⟨(f, va, vb) :: m, by simp [hm], fun p hp => ?_, fun j u hu => ?_⟩
    · rcases List.mem_cons.1 hp with rfl | hp
      · exact ⟨ra, rb⟩
      · exact hr p hp
    · unfold cellsV at hu
      match j, hu with
      | 0, hu => cases hu; simpa using c0
      | 1, hu => cases hu; simpa using c1
      | 2, hu => cases hu; simpa using c2
      | 3, hu => cases hu; simpa using c3
      | j + 4, hu =>
        have := hc j u (by simpa using hu)
        rw [show off + 4 + j = off + (j + 4) by omega] at this
        exact this
theorem LeavesAt.src {w : World} {v : Value} {l : List LF} (h : LeavesAt w v l) : ∃ m : List (LF × VV), m.map Prod.fst = l ∧ ReadsV w m ∧ ∀ w', Kp w w' → SrcAt w' v l.length (cellsV m) := by
  rcases h with ⟨ad, c, rfl, rfl⟩ | ⟨b, off, cap, rfl, _, _, hx⟩
  · exact ⟨[], rfl, fun p hp => (by cases hp), fun w' k => .inl ⟨_, _, rfl, rfl, rfl⟩⟩
  · obtain ⟨m, hm, hr, hc⟩ := leaves_vals b off hx
    exact ⟨m, hm, hr, fun w' k => .inr ⟨_, _, rfl, fun j u hu => by rw [Addr.add_lit]; exact cell_up k (hc j u hu)⟩⟩
theorem leavesAt_own {w : World} {base : Nat} {e : TypeId} {v : Value} {m : List (LF × VV)} (h : w.ownsRow base e 4 v m.length (cellsV m)) (r : ReadsV w m) : LeavesAt w v (m.map Prod.fst) := by
  rcases h.2 with ⟨e1, h0⟩ | ⟨g, cp, cur, rfl, h2, h3, h4, h5, h6, h7⟩
  · have : m = [] := List.length_eq_zero_iff.1 h0
    subst this
    exact .inl ⟨_, _, e1, rfl⟩
  · refine .inr ⟨g, 0, cp, by rw [List.length_map], by rw [List.length_map]; exact h4, h5, fun i hi => ?_⟩
    rw [List.length_map] at hi
    obtain ⟨c0, c1, c2, c3⟩ := cellsV_at m i hi
    have e : lat (m.map Prod.fst) i = (m[i]'hi).1 := by unfold lat; rw [List.getD_eq_getElem?_getD, List.getElem?_map, List.getElem?_eq_getElem hi]; rfl
    have hp := r _ (List.getElem_mem hi)
    rw [e, Nat.zero_add]
    refine ⟨_, _, ?_, ?_, ?_, ?_, hp.1, hp.2⟩
    · rw [h.cellAt _ (by omega)]; exact c0
    · rw [h.cellAt _ (by omega)]; exact c1
    · rw [h.cellAt _ (by omega)]; exact c2
    · rw [h.cellAt _ (by omega)]; exact c3
theorem infoLeaf : (Tryz.prog.info? 47).map (fun i => (i.zero, i.size, i.bytes)) = some (some (.agg #[.bool false, .int .i64 0, .slice none 0 0, .slice none 0 0]), 4, 64) := by kernel_rfl
end Go.Proofs.YtjdnejglapnbbaaGreatDoor
