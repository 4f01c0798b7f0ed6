import Derived.Test.YtjdnejglapnbbaaGreatDoorRlB
import Derived.Test.YtjdnejglapnbbaaGreatDoorBx
import Derived.Test.YtjdnejglapnbbaaGreatDoorGSetC
set_option maxHeartbeats 16000000
set_option maxRecDepth 100000
namespace Go.Proofs.YtjdnejglapnbbaaGreatDoor
open Go.RowKit
set_option linter.unusedVariables false
set_option linter.unusedSimpArgs false
def inBx (b : Int × Int × Int × Int) (S T : Int) : Prop := b.1 ≤ S ∧ S ≤ b.2.1 ∧ b.2.2.1 ≤ T ∧ T ≤ b.2.2.2
def bxV (b : Int × Int × Int × Int) : Value := .agg #[.int .i64 b.1, .int .i64 b.2.1, .int .i64 b.2.2.1, .int .i64 b.2.2.2]
def i64x (x : Int) : Prop := -9223372036854775808 ≤ x ∧ x ≤ 9223372036854775807
def bxOk (b : Int × Int × Int × Int) : Prop := i64x b.1 ∧ i64x b.2.1 ∧ i64x b.2.2.1 ∧ i64x b.2.2.2
def wiD (A : List R) (b : Int × Int × Int × Int) : Bool := (nxt A (max b.1 b.2.2.1)).2 && decide ((nxt A (max b.1 b.2.2.1)).1 ≤ min b.2.1 b.2.2.2)
def wiG (A B : List R) (b : Int × Int × Int × Int) : Bool := (nxt A b.1).2 && ((prv B b.2.2.2).2 && (decide ((nxt A b.1).1 ≤ b.2.1) && (decide ((prv B b.2.2.2).1 ≥ b.2.2.1) && decide ((nxt A b.1).1 ≤ (prv B b.2.2.2).1))))
theorem wiD_iff {A : List R} (h : sane A) (b : Int × Int × Int × Int) : wiD A b = true ↔ ∃ x, memR A x ∧ inBx b x x := by
 obtain ⟨b0, b1, b2, b3⟩ := b
 unfold wiD inBx
 simp only
 rcases nxt_spec A (max b0 b2) h with ⟨e, g⟩ | ⟨a, e, g1, g2, g3⟩
 ·rw [e]
  simp only [Bool.false_and, Bool.false_eq_true, false_iff]
  rintro ⟨x, hx, h1, h2, h3, h4⟩
  have := g x hx
  omega
 ·rw [e]
  simp only [Bool.true_and, decide_eq_true_eq]
  constructor
  ·intro h2
   exact ⟨a, g2, by omega, by omega, by omega, by omega⟩
  ·rintro ⟨x, hx, h1, h2, h3, h4⟩
   have := g3 x hx (by omega)
   omega
theorem wiG_iff {A B : List R} (hA : sane A) (hB : sane B) (b : Int × Int × Int × Int) : wiG A B b = true ↔ ∃ S T, S ≤ T ∧ memR A S ∧ memR B T ∧ inBx b S T := by
 obtain ⟨b0, b1, b2, b3⟩ := b
 unfold wiG inBx
 simp only
 rcases nxt_spec A b0 hA with ⟨e, g⟩ | ⟨a, e, g1, g2, g3⟩
 ·rw [e]
  simp only [Bool.false_and, Bool.false_eq_true, false_iff]
  rintro ⟨S, T, _, hS, hT, h1, h2, h3, h4⟩
  have := g S hS
  omega
 ·rcases prv_spec B b3 hB with ⟨e', g'⟩ | ⟨c, e', k1, k2, k3⟩
  ·rw [e, e']
   simp only [Bool.false_and, Bool.true_and, Bool.false_eq_true, false_iff]
   rintro ⟨S, T, _, hS, hT, h1, h2, h3, h4⟩
   have := g' T hT
   omega
  ·rw [e, e']
   simp only [Bool.true_and, Bool.and_eq_true, decide_eq_true_eq]
   constructor
   ·rintro ⟨h1, h2, h3⟩
    exact ⟨a, c, h3, g2, k2, by omega, by omega, by omega, by omega⟩
   ·rintro ⟨S, T, hST, hS, hT, h1, h2, h3, h4⟩
    have := g3 S hS (by omega)
    have := k3 T hT (by omega)
    omega
def lsP (d : Bool) (A B : List R) (S T : Int) : Prop := if d = true then S = T ∧ memR A S else S ≤ T ∧ memR A S ∧ memR B T
def wiL (d : Bool) (A B : List R) (b : Int × Int × Int × Int) : Bool := if d = true then wiD A b else wiG A B b
theorem wiL_iff {d : Bool} {A B : List R} (hA : sane A) (hB : sane B) (b : Int × Int × Int × Int) : wiL d A B b = true ↔ ∃ S T, lsP d A B S T ∧ inBx b S T := by
 unfold wiL lsP
 cases d with
 | true =>
  simp only [if_true]
  rw [wiD_iff hA]
  constructor
  ·rintro ⟨x, h1, h2⟩; exact ⟨x, x, ⟨rfl, h1⟩, h2⟩
  ·rintro ⟨S, T, ⟨rfl, h1⟩, h2⟩; exact ⟨_, h1, h2⟩
 | false =>
  simp only [Bool.false_eq_true, if_false]
  rw [wiG_iff hA hB]
  constructor
  ·rintro ⟨S, T, a, b, c, d⟩; exact ⟨S, T, ⟨a, b, c⟩, d⟩
  ·rintro ⟨S, T, ⟨a, b, c⟩, d⟩; exact ⟨S, T, a, b, c, d⟩
def riseP (L : List R) : Prop := L.Pairwise fun a b => a.1 ≤ b.1 ∧ a.2 ≤ b.2
theorem riseP_at {L : List R} (h : riseP L) {i j : Nat} (hij : i ≤ j) (hj : j < L.length) : (at_ L i).1 ≤ (at_ L j).1 ∧ (at_ L i).2 ≤ (at_ L j).2 := by
 by_cases e : i = j
 ·subst e; exact ⟨Int.le_refl _, Int.le_refl _⟩
 ·have := List.pairwise_iff_getElem.1 h i j (by omega) hj (by omega)
  unfold at_
  simpa [List.getD, List.getElem?_eq_getElem hj, List.getElem?_eq_getElem (show i < L.length by omega)] using this
def fL (L : List R) (a b : Int) (k : Nat) : Bool := decide (L.length ≤ k) || (decide (a ≤ (at_ L k).1) && decide (b ≤ (at_ L k).2))
theorem fL_mono {L : List R} (h : riseP L) (a b : Int) : ∀ i j, i ≤ j → fL L a b i = true → fL L a b j = true := by
 intro i j hij hi
 unfold fL at hi ⊢
 simp only [Bool.or_eq_true, Bool.and_eq_true, decide_eq_true_eq] at hi ⊢
 by_cases c : L.length ≤ j
 ·exact .inl c
 ·right
  rcases hi with hi | hi
  ·omega
  ·have := riseP_at h hij (by omega)
   omega
def wiA (L : List R) (b : Int × Int × Int × Int) (i : Nat) : Bool := decide (i < L.length) && (decide ((at_ L i).1 ≤ b.2.1) && decide ((at_ L i).2 ≤ b.2.2.2))
theorem wiA_iff {L : List R} (h : riseP L) (b : Int × Int × Int × Int) {i : Nat} (c : Cut (fL L b.1 b.2.2.1) L.length i) : wiA L b i = true ↔ ∃ S T, (S, T) ∈ L ∧ inBx b S T := by
 obtain ⟨c1, c2, c3⟩ := c
 unfold wiA inBx
 simp only [Bool.and_eq_true, decide_eq_true_eq]
 constructor
 ·rintro ⟨h1, h2, h3⟩
  have := c3 i (Nat.le_refl _) h1
  unfold fL at this
  simp only [Bool.or_eq_true, Bool.and_eq_true, decide_eq_true_eq] at this
  rcases this with q | q
  ·omega
  ·exact ⟨_, _, (show ((at_ L i).1, (at_ L i).2) ∈ L from at_mem h1), q.1, h2, q.2, h3⟩
 ·rintro ⟨S, T, hm, h1, h2, h3, h4⟩
  obtain ⟨j, hj, e⟩ := List.mem_iff_getElem.1 hm
  have ej : at_ L j = (S, T) := by unfold at_; simp [List.getD, List.getElem?_eq_getElem hj, e]
  have hij : i ≤ j := by
   rcases Nat.lt_or_ge j i with q | q
   ·have := c2 j q
    unfold fL at this
    simp only [ej, Bool.or_eq_false_iff, Bool.and_eq_false_iff, decide_eq_false_iff_not] at this
    omega
   ·exact q
  have := riseP_at h hij hj
  rw [ej] at this
  simp only at this
  exact ⟨by omega, by omega, by omega⟩
theorem lwithin_d (va vb : Value) (A B : List R) (b0 b1 b2 b3 : Int) (w : World) (hA : RunsAt w va A) (hB : RunsAt w vb B) (sA : sane A) (sB : sane B) (lA : A.length ≤ 1000000) (lB : B.length ≤ 1000000) (hb : bxOk (b0, b1, b2, b3)) :
  Calls Tryz.prog 309 #[.agg #[.bool true, va, vb], bxV (b0, b1, b2, b3)] w fun e w' => e = .returned (.bool (wiD A (b0, b1, b2, b3))) ∧ Kp w w' := by
 obtain ⟨ada, ca, rfl⟩ := hA.slice
 obtain ⟨adb, cb, rfl⟩ := hB.slice
 obtain ⟨⟨p0, q0⟩, ⟨p1, q1⟩, ⟨p2, q2⟩, ⟨p3, q3⟩⟩ := hb
 simp only at p0 q0 p1 q1 p2 q2 p3 q3
 unfold bxV
 simp only
 obtain ⟨W0, hW⟩ : ∃ x, x = (w.alloc (.cells #[.bool true, .slice ada A.length ca, .slice adb B.length cb] 111)).alloc (.cells #[.int .i64 b0, .int .i64 b1, .int .i64 b2, .int .i64 b3] 171) := ⟨_, rfl⟩
 have k0 : Kp w W0 := by rw [hW]; exact (Kp.alloc _ _).trans (Kp.alloc _ _)
 have gA : W0.heap[w.heap.size]? = some (.cells #[.bool true, .slice ada A.length ca, .slice adb B.length cb] 111 (0, 0)) := by rw [hW]; exact heap_block (Kp.alloc _ _) (heap_at _ _ _ rfl)
 have gB : W0.heap[w.heap.size + 1]? = some (.cells #[.int .i64 b0, .int .i64 b1, .int .i64 b2, .int .i64 b3] 171 (0, 0)) := by rw [hW]; exact heap_at _ _ _ (by simp)
 have K0 := Lib.hid k0
 have KS := Lib.hid (fun w' (kq : Kp W0 w') => show (w'.heap[w.heap.size]? = some (.cells #[.bool true, .slice ada A.length ca, .slice adb B.length cb] 111 (0, 0))) ∧ w'.heap[w.heap.size + 1]? = some (.cells #[.int .i64 b0, .int .i64 b1, .int .i64 b2, .int .i64 b3] 171 (0, 0)) from ⟨heap_block kq gA, heap_block kq gB⟩)
 have HW := Lib.hid hW
 clear hW gA gB k0
 have NX := Lib.hid (fun w1 (k : Kp W0 w1) => rnext_any (.slice ada A.length ca) A (max b0 b2) w1 (hA.kp (K0.out.trans k)) sA (by omega) (by omega) (by omega))
 have E := Lib.hid (show wiD A (b0, b1, b2, b3) = ((nxt A (max b0 b2)).2 && decide ((nxt A (max b0 b2)).1 ≤ min b1 b3)) from rfl)
 obtain ⟨R, hR⟩ : ∃ R, nxt A (max b0 b2) = R := ⟨_, rfl⟩
 rw [hR] at NX E
 obtain ⟨x, ok⟩ := R
 simp only at NX E
 clear hA hB sA sB lA lB hR
 go_enter Tryz.func309, Tryz.ntmps309
 go_upto_region 1 with fail
 rw [← HW.out]
 obtain ⟨g0, g1⟩ := KS.out _ (Kp.refl _)
 obtain ⟨c0, c1, c2⟩ := row3 g0
 obtain ⟨d0, d1, d2, d3⟩ := row4 g1
 clear g0 g1
 go_wp2_with fail
 refine (NX.out _ (Kp.refl _)).mono ?_
 rintro e w1 ⟨rfl, k1⟩
 have K1 := Lib.hid k1
 clear c0 c1 c2 d0 d1 d2 d3
 obtain ⟨g0, g1⟩ := KS.out _ k1
 obtain ⟨c0, c1, c2⟩ := row3 g0
 obtain ⟨d0, d1, d2, d3⟩ := row4 g1
 clear g0 g1
 clear k1
 cases ok with
 | false =>
  have E2 := Lib.hid (show wiD A (b0, b1, b2, b3) = false from E.out)
  go_wp2
  go_ret
  exact ⟨ret_bool E2.out.symm, K0.out.trans K1.out⟩
 | true =>
  have E2 := Lib.hid (show wiD A (b0, b1, b2, b3) = decide (x ≤ min b1 b3) from E.out)
  rcases Bool.eq_false_or_eq_true (decide (x ≤ min b1 b3)) with q | q
  ·have E3 := Lib.hid (show wiD A (b0, b1, b2, b3) = true by rw [E2.out, q])
   go_wp2
   go_ret
   exact ⟨ret_bool E3.out.symm, K0.out.trans K1.out⟩
  ·have E3 := Lib.hid (show wiD A (b0, b1, b2, b3) = false by rw [E2.out, q])
   go_wp2
   go_ret
   exact ⟨ret_bool E3.out.symm, K0.out.trans K1.out⟩
theorem lwithin_g (va vb : Value) (A B : List R) (b0 b1 b2 b3 : Int) (w : World) (hA : RunsAt w va A) (hB : RunsAt w vb B) (sA : sane A) (sB : sane B) (lA : A.length ≤ 1000000) (lB : B.length ≤ 1000000) (hb : bxOk (b0, b1, b2, b3)) :
  Calls Tryz.prog 309 #[.agg #[.bool false, va, vb], bxV (b0, b1, b2, b3)] w fun e w' => e = .returned (.bool (wiG A B (b0, b1, b2, b3))) ∧ Kp w w' := by
 obtain ⟨ada, ca, rfl⟩ := hA.slice
 obtain ⟨adb, cb, rfl⟩ := hB.slice
 obtain ⟨⟨p0, q0⟩, ⟨p1, q1⟩, ⟨p2, q2⟩, ⟨p3, q3⟩⟩ := hb
 simp only at p0 q0 p1 q1 p2 q2 p3 q3
 unfold bxV
 simp only
 obtain ⟨W0, hW⟩ : ∃ x, x = (w.alloc (.cells #[.bool false, .slice ada A.length ca, .slice adb B.length cb] 111)).alloc (.cells #[.int .i64 b0, .int .i64 b1, .int .i64 b2, .int .i64 b3] 171) := ⟨_, rfl⟩
 have k0 : Kp w W0 := by rw [hW]; exact (Kp.alloc _ _).trans (Kp.alloc _ _)
 have gA : W0.heap[w.heap.size]? = some (.cells #[.bool false, .slice ada A.length ca, .slice adb B.length cb] 111 (0, 0)) := by rw [hW]; exact heap_block (Kp.alloc _ _) (heap_at _ _ _ rfl)
 have gB : W0.heap[w.heap.size + 1]? = some (.cells #[.int .i64 b0, .int .i64 b1, .int .i64 b2, .int .i64 b3] 171 (0, 0)) := by rw [hW]; exact heap_at _ _ _ (by simp)
 have K0 := Lib.hid k0
 have KS := Lib.hid (fun w' (kq : Kp W0 w') => show (w'.heap[w.heap.size]? = some (.cells #[.bool false, .slice ada A.length ca, .slice adb B.length cb] 111 (0, 0))) ∧ w'.heap[w.heap.size + 1]? = some (.cells #[.int .i64 b0, .int .i64 b1, .int .i64 b2, .int .i64 b3] 171 (0, 0)) from ⟨heap_block kq gA, heap_block kq gB⟩)
 have HW := Lib.hid hW
 clear hW gA gB k0
 have NX := Lib.hid (fun w1 (k : Kp W0 w1) => rnext_any (.slice ada A.length ca) A b0 w1 (hA.kp (K0.out.trans k)) sA (by omega) (by omega) (by omega))
 have PX := Lib.hid (fun w1 (k : Kp W0 w1) => rprev_any (.slice adb B.length cb) B b3 w1 (hB.kp (K0.out.trans k)) sB (by omega) (by omega) (by omega))
 have E := Lib.hid (show wiG A B (b0, b1, b2, b3) = ((nxt A b0).2 && ((prv B b3).2 && (decide ((nxt A b0).1 ≤ b1) && (decide ((prv B b3).1 ≥ b2) && decide ((nxt A b0).1 ≤ (prv B b3).1))))) from rfl)
 obtain ⟨R, hR⟩ : ∃ R, nxt A b0 = R := ⟨_, rfl⟩
 rw [hR] at NX E
 obtain ⟨x, ok⟩ := R
 obtain ⟨R', hR'⟩ : ∃ R, prv B b3 = R := ⟨_, rfl⟩
 rw [hR'] at PX E
 obtain ⟨y, ok'⟩ := R'
 simp only at NX PX E
 clear hA hB sA sB lA lB hR hR'
 go_enter Tryz.func309, Tryz.ntmps309
 go_upto_region 1 with fail
 rw [← HW.out]
 obtain ⟨g0, g1⟩ := KS.out _ (Kp.refl _)
 obtain ⟨c0, c1, c2⟩ := row3 g0
 obtain ⟨d0, d1, d2, d3⟩ := row4 g1
 clear g0 g1
 go_wp2_with fail
 refine (NX.out _ (Kp.refl _)).mono ?_
 rintro e w1 ⟨rfl, k1⟩
 have K1 := Lib.hid k1
 clear c0 c1 c2 d0 d1 d2 d3
 obtain ⟨g0, g1⟩ := KS.out _ k1
 obtain ⟨c0, c1, c2⟩ := row3 g0
 obtain ⟨d0, d1, d2, d3⟩ := row4 g1
 clear g0 g1
 clear k1
 go_wp2_with fail
 refine (PX.out _ K1.out).mono ?_
 rintro e w2 ⟨rfl, k2⟩
 have K2 := Lib.hid k2
 clear c0 c1 c2 d0 d1 d2 d3
 obtain ⟨g0, g1⟩ := KS.out _ (K1.out.trans k2)
 obtain ⟨c0, c1, c2⟩ := row3 g0
 obtain ⟨d0, d1, d2, d3⟩ := row4 g1
 clear g0 g1
 clear k2
 cases ok with
 | false =>
  have E3 := Lib.hid (show wiG A B (b0, b1, b2, b3) = false by rw [E.out]; rfl)
  go_wp2
  go_ret
  exact ⟨ret_bool E3.out.symm, K0.out.trans (K1.out.trans K2.out)⟩
 | true =>
  cases ok' with
  | false =>
   have E3 := Lib.hid (show wiG A B (b0, b1, b2, b3) = false by rw [E.out]; rfl)
   go_wp2
   go_ret
   exact ⟨ret_bool E3.out.symm, K0.out.trans (K1.out.trans K2.out)⟩
  | true =>
   rcases Bool.eq_false_or_eq_true (decide (x ≤ b1)) with u1 | u1
   rotate_left
   ·have E3 := Lib.hid (show wiG A B (b0, b1, b2, b3) = false by rw [E.out, u1]; rfl)
    go_wp2
    go_ret
    exact ⟨ret_bool E3.out.symm, K0.out.trans (K1.out.trans K2.out)⟩
   rcases Bool.eq_false_or_eq_true (decide (y ≥ b2)) with u2 | u2
   rotate_left
   ·have E3 := Lib.hid (show wiG A B (b0, b1, b2, b3) = false by rw [E.out, u1, u2]; rfl)
    go_wp2
    go_ret
    exact ⟨ret_bool E3.out.symm, K0.out.trans (K1.out.trans K2.out)⟩
   rcases Bool.eq_false_or_eq_true (decide (x ≤ y)) with u3 | u3
   ·have E3 := Lib.hid (show wiG A B (b0, b1, b2, b3) = true by rw [E.out, u1, u2, u3]; rfl)
    go_wp2
    go_ret
    exact ⟨ret_bool E3.out.symm, K0.out.trans (K1.out.trans K2.out)⟩
   ·have E3 := Lib.hid (show wiG A B (b0, b1, b2, b3) = false by rw [E.out, u1, u2, u3]; rfl)
    go_wp2
    go_ret
    exact ⟨ret_bool E3.out.symm, K0.out.trans (K1.out.trans K2.out)⟩
theorem lwithin_any (d : Bool) (va vb : Value) (A B : List R) (b0 b1 b2 b3 : Int) (w : World) (hA : RunsAt w va A) (hB : RunsAt w vb B) (sA : sane A) (sB : sane B) (lA : A.length ≤ 1000000) (lB : B.length ≤ 1000000) (hb : bxOk (b0, b1, b2, b3)) :
  Calls Tryz.prog 309 #[.agg #[.bool d, va, vb], bxV (b0, b1, b2, b3)] w fun e w' => e = .returned (.bool (wiL d A B (b0, b1, b2, b3))) ∧ Kp w w' := by
 cases d with
 | true => exact lwithin_d va vb A B b0 b1 b2 b3 w hA hB sA sB lA lB hb
 | false => exact lwithin_g va vb A B b0 b1 b2 b3 w hA hB sA sB lA lB hb
theorem lclo_any (L : List R) (b0 b2 : Int) (B0 B1 : Nat) (v : Value) (h : Nat) (w : World) (hh : h < L.length) (hl : (L.length : Int) ≤ 9223372036854775807) (hv : RunsAt w v L) (c0 : w.cell? ⟨B0, 0, none⟩ = some v) (d0 : w.cell? ⟨B1, 0, none⟩ = some (.int .i64 b0)) (d2 : w.cell? ⟨B1, 2, none⟩ = some (.int .i64 b2)) :
  Calls Tryz.prog 315 #[.int .i64 h, .pointer (some ⟨B0, 0, none⟩), .pointer (some ⟨B1, 0, none⟩)] w fun e w' => e = .returned (.bool (fL L b0 b2 h)) ∧ Kp w w' := by
 rcases hv with ⟨ad0, cp0, rfl, rfl⟩ | ⟨b, off, cap, rfl, hc, hm, hx⟩
 ·simp at hh
 obtain ⟨x1, x2⟩ := hx h hh
 have E := Lib.hid (show fL L b0 b2 h = (decide (b0 ≤ (at_ L h).1) && decide (b2 ≤ (at_ L h).2)) by unfold fL; rw [show decide (L.length ≤ h) = false by simp; omega]; simp)
 have z1 : (0 : Int) ≤ (h : Int) := by omega
 have z2 : (h : Int) < L.length := by omega
 obtain ⟨y, ey⟩ : ∃ y, (at_ L h).1 = y := ⟨_, rfl⟩
 obtain ⟨z, ez⟩ : ∃ y, (at_ L h).2 = y := ⟨_, rfl⟩
 rw [ey] at x1 E
 rw [ez] at x2 E
 clear hx ey ez hc hm
 rcases Bool.eq_false_or_eq_true (decide (b0 ≤ y)) with u1 | u1
 rotate_left
 ·have E2 := Lib.hid (show fL L b0 b2 h = false by rw [E.out, u1]; rfl)
  have u1' : decide (y ≥ b0) = false := u1
  go_enter Tryz.func315, Tryz.ntmps315
  go_wp2_with fail
  go_quiet (fail)
  go_wp2
  go_ret
  exact ⟨ret_bool E2.out.symm, Kp.drewN _ _⟩
 have u1' : decide (y ≥ b0) = true := u1
 rcases Bool.eq_false_or_eq_true (decide (b2 ≤ z)) with u2 | u2
 ·have E2 := Lib.hid (show fL L b0 b2 h = true by rw [E.out, u1, u2]; rfl)
  have u2' : decide (z ≥ b2) = true := u2
  go_enter Tryz.func315, Tryz.ntmps315
  go_wp2_with fail
  go_quiet (fail)
  go_wp2
  go_ret
  exact ⟨ret_bool E2.out.symm, Kp.drewN _ _⟩
 ·have E2 := Lib.hid (show fL L b0 b2 h = false by rw [E.out, u1, u2]; rfl)
  have u2' : decide (z ≥ b2) = false := u2
  go_enter Tryz.func315, Tryz.ntmps315
  go_wp2_with fail
  go_quiet (fail)
  go_wp2
  go_ret
  exact ⟨ret_bool E2.out.symm, Kp.drewN _ _⟩
theorem dwithin_any (va : Value) (L : List R) (b0 b1 b2 b3 : Int) (w : World) (hA : RunsAt w va L) (rL : riseP L) (lA : L.length ≤ 1000000) (hb : bxOk (b0, b1, b2, b3)) :
  Calls Tryz.prog 314 #[va, bxV (b0, b1, b2, b3)] w fun e w' => ∃ b : Bool, e = .returned (.bool b) ∧ (b = true ↔ ∃ S T, (S, T) ∈ L ∧ inBx (b0, b1, b2, b3) S T) ∧ Kp w w' := by
 obtain ⟨ada, ca, rfl⟩ := hA.slice
 obtain ⟨⟨p0, q0⟩, ⟨p1, q1⟩, ⟨p2, q2⟩, ⟨p3, q3⟩⟩ := hb
 simp only at p0 q0 p1 q1 p2 q2 p3 q3
 unfold bxV
 simp only
 obtain ⟨W0, hW⟩ : ∃ x, x = (w.alloc (.cells #[.slice ada L.length ca] 118)).alloc (.cells #[.int .i64 b0, .int .i64 b1, .int .i64 b2, .int .i64 b3] 171) := ⟨_, rfl⟩
 have k0 : Kp w W0 := by rw [hW]; exact (Kp.alloc _ _).trans (Kp.alloc _ _)
 have gA : W0.heap[w.heap.size]? = some (.cells #[.slice ada L.length ca] 118 (0, 0)) := by rw [hW]; exact heap_block (Kp.alloc _ _) (heap_at _ _ _ rfl)
 have gB : W0.heap[w.heap.size + 1]? = some (.cells #[.int .i64 b0, .int .i64 b1, .int .i64 b2, .int .i64 b3] 171 (0, 0)) := by rw [hW]; exact heap_at _ _ _ (by simp)
 have K0 := Lib.hid k0
 have KS := Lib.hid (fun w' (kq : Kp W0 w') => show (w'.heap[w.heap.size]? = some (.cells #[.slice ada L.length ca] 118 (0, 0))) ∧ w'.heap[w.heap.size + 1]? = some (.cells #[.int .i64 b0, .int .i64 b1, .int .i64 b2, .int .i64 b3] 171 (0, 0)) from ⟨heap_block kq gA, heap_block kq gB⟩)
 have HW := Lib.hid hW
 clear hW gA gB k0
 have hmf : ∀ (fn : Fn) (first cap : Array Value) (w : World), (Instr.makeFunc fn first cap).run Tryz.prog w = .ok (.func fn first cap) w := fun _ _ _ _ => rfl
 have S := Lib.hid (search_any 315 #[.pointer (some ⟨w.heap.size, 0, none⟩), .pointer (some ⟨w.heap.size + 1, 0, none⟩)] (fL L b0 b2) L.length W0 (by omega) (enters_of Tryz.func315 (by kernel_rfl) rfl) (fL_mono rL b0 b2)
  (fun h w' hh k => lclo_any L b0 b2 w.heap.size (w.heap.size + 1) (.slice ada L.length ca) h w' hh (by omega) (hA.kp (K0.out.trans k)) (row1 (KS.out _ k).1) (row4 (KS.out _ k).2).1 (row4 (KS.out _ k).2).2.2.1))
 have WA := Lib.hid (fun i c => wiA_iff rL (b0, b1, b2, b3) (i := i) c)
 have HV := Lib.hid (fun w' (k : Kp W0 w') => hA.kp (K0.out.trans k))
 have hlen : (L.length : Int) ≤ 9223372036854775807 := by omega
 clear rL hA
 go_enter Tryz.func314, Tryz.ntmps314
 go_upto_region 1 with fail
 rw [← HW.out]
 obtain ⟨g0, g1⟩ := KS.out _ (Kp.refl _)
 have c0 := row1 g0
 obtain ⟨d0, d1, d2, d3⟩ := row4 g1
 clear g0 g1
 go_wp2_with fail
 refine (S.out).mono ?_
 rintro e w1 ⟨i, rfl, CU, k1⟩
 have K1 := Lib.hid k1
 have W1 := Lib.hid (WA.out i CU)
 clear c0 d0 d1 d2 d3
 obtain ⟨g0, g1⟩ := KS.out _ k1
 have c0 := row1 g0
 obtain ⟨d0, d1, d2, d3⟩ := row4 g1
 have RV := HV.out _ k1
 have ile : i ≤ L.length := CU.1
 clear g0 g1 k1 CU S WA
 have z1 : (0 : Int) ≤ (i : Int) := by omega
 by_cases hi : i < L.length
 rotate_left
 ·have E2 := Lib.hid (show wiA L (b0, b1, b2, b3) i = false by unfold wiA; rw [decide_eq_false hi]; rfl)
  have q : decide ((i : Int) < (L.length : Int)) = false := decide_eq_false (by omega)
  have q' : decide (i < L.length) = false := decide_eq_false hi
  go_wp2_with fail
  go_quiet (fail)
  go_wp2
  go_ret
  exact ⟨_, ret_bool rfl, by rw [E2.out] at W1; exact W1.out, K0.out.trans (K1.out.trans (Kp.drewN _ _))⟩
 have z2 : (i : Int) < L.length := by omega
 have q : decide ((i : Int) < (L.length : Int)) = true := decide_eq_true z2
 have q' : decide (i < L.length) = true := decide_eq_true hi
 rcases RV with ⟨_, _, _, e⟩ | ⟨b, off, cap, ev, hc, hm, hx⟩
 ·rw [e] at hi; simp at hi
 obtain ⟨x1, x2⟩ := hx i hi
 cases ev
 have E := Lib.hid (show wiA L (b0, b1, b2, b3) i = (decide ((at_ L i).1 ≤ b1) && decide ((at_ L i).2 ≤ b3)) by unfold wiA; rw [decide_eq_true hi]; rfl)
 obtain ⟨y, ey⟩ : ∃ y, (at_ L i).1 = y := ⟨_, rfl⟩
 obtain ⟨z, ez⟩ : ∃ y, (at_ L i).2 = y := ⟨_, rfl⟩
 rw [ey] at x1 E
 rw [ez] at x2 E
 clear hx ey ez hc hm
 rcases Bool.eq_false_or_eq_true (decide (y ≤ b1)) with u1 | u1
 rotate_left
 ·have E2 := Lib.hid (show wiA L (b0, b1, b2, b3) i = false by rw [E.out, u1]; rfl)
  go_wp2_with fail
  go_quiet (fail)
  go_wp2
  go_ret
  exact ⟨_, ret_bool rfl, by rw [E2.out] at W1; exact W1.out, K0.out.trans (K1.out.trans (Kp.drewN _ _))⟩
 rcases Bool.eq_false_or_eq_true (decide (z ≤ b3)) with u2 | u2
 ·have E2 := Lib.hid (show wiA L (b0, b1, b2, b3) i = true by rw [E.out, u1, u2]; rfl)
  go_wp2_with fail
  go_quiet (fail)
  go_wp2
  go_ret
  exact ⟨_, ret_bool rfl, by rw [E2.out] at W1; exact W1.out, K0.out.trans (K1.out.trans (Kp.drewN _ _))⟩
 ·have E2 := Lib.hid (show wiA L (b0, b1, b2, b3) i = false by rw [E.out, u1, u2]; rfl)
  go_wp2_with fail
  go_quiet (fail)
  go_wp2
  go_ret
  exact ⟨_, ret_bool rfl, by rw [E2.out] at W1; exact W1.out, K0.out.trans (K1.out.trans (Kp.drewN _ _))⟩
end Go.Proofs.YtjdnejglapnbbaaGreatDoor
