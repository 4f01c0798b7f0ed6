import Derived.Test.YtamdjbpgkiekcaaGreatDoorGSetA
import Derived.Test.YtamdjbpgkiekcaaGreatDoorGRlA
import Derived.Test.YtamdjbpgkiekcaaGreatDoorGSetC
import Derived.Test.YtamdjbpgkiekcaaGreatDoorGLeafA
import Derived.Test.YtamdjbpgkiekcaaGreatDoorAllenA
import Derived.LoopTactic
namespace Go.Proofs.YtamdjbpgkiekcaaGreatDoor
open Go.RowKit
set_option linter.unusedVariables false
set_option linter.unusedSimpArgs false
set_option maxHeartbeats 1000000 in
theorem rnclo_any (l : List R) (n : Int) (B0 B1 : Nat) (v : Value) (h : Nat) (w : World) (hh : h < l.length) (hl : (l.length : Int) ≤ 9223372036854775807) (hv : RunsAt w v l) (c0 : w.cell? ⟨B0, 0, none⟩ = some v) (c1 : w.cell? ⟨B1, 0, none⟩ = some (.int .i64 n)) :
  Calls Tryz.prog 267 #[.int .i64 h, .pointer (some ⟨B0, 0, none⟩), .pointer (some ⟨B1, 0, none⟩)] w fun e w' => e = .returned (.bool (fB l n h)) ∧ Kp w w' := by
 rcases hv with ⟨ad0, cp0, rfl, rfl⟩ | ⟨b, off, cap, rfl, hc, hm, hx⟩
 ·simp at hh
 obtain ⟨d1, d2⟩ := hx h hh
 have E := Lib.hid (show fB l n h = decide (n ≤ (at_ l h).2) by unfold fB; rw [show decide (l.length ≤ h) = false by simp; omega]; simp)
 have z1 : (0 : Int) ≤ (h : Int) := by omega
 have z2 : (h : Int) < l.length := by omega
 obtain ⟨y, ey⟩ : ∃ y, (at_ l h).2 = y := ⟨_, rfl⟩
 rw [ey] at d2 E
 clear hx ey d1 hc hm
 go_enter Tryz.func267, Tryz.ntmps267
 go_wp2_with fail
 go_quiet (fail)
 go_wp2
 go_ret
 exact ⟨ret_bool E.out.symm, Kp.drewN _ _⟩
set_option maxHeartbeats 2000000 in
theorem rnext_any (v : Value) (l : List R) (n : Int) (w : World) (hv0 : RunsAt w v l) (h : sane l) (hl : l.length ≤ 4611686018427387904) (nl : -9223372036854775808 ≤ n) (nh : n ≤ 9223372036854775807) :
  Calls Tryz.prog 265 #[v, .int .i64 n] w fun e w' => e = .returned (.tuple #[.int .i64 (nxt l n).1, .bool (nxt l n).2]) ∧ Kp w w' := by
 obtain ⟨ad', c', rfl⟩ := hv0.slice
 have MO := Lib.hid (fB_mono h n)
 have NX := Lib.hid (nxt_at l n)
 clear h
 have hmf : ∀ (fn : Fn) (first cap : Array Value) (w : World), (Instr.makeFunc fn first cap).run Tryz.prog w = .ok (.func fn first cap) w := fun _ _ _ _ => rfl
 obtain ⟨W2, hW⟩ : ∃ W2, W2 = (w.alloc (.cells #[.slice ad' l.length c'] 43)).alloc (.cells #[.int .i64 n] 3) := ⟨_, rfl⟩
 have KB : Below w.heap.size w W2 := by rw [hW]; exact (Kp.alloc _ _).trans (Kp.alloc _ _)
 have RA : RunsAt W2 (.slice ad' l.length c') l := hv0.kp KB
 have e0 : W2.cell? ⟨w.heap.size, 0, none⟩ = some (.slice ad' l.length c') := by rw [hW]; simp
 have e1 : W2.cell? ⟨w.heap.size + 1, 0, none⟩ = some (.int .i64 n) := by rw [hW]; simp
 have sz : w.heap.size + 1 < W2.heap.size := by rw [hW]; simp
 have S := Lib.hid (search_any 267 #[.pointer (some ⟨w.heap.size, 0, none⟩), .pointer (some ⟨w.heap.size + 1, 0, none⟩)] (fB l n) l.length W2 hl (enters_of Tryz.func267 (by kernel_rfl) rfl) MO.out
  (fun h w' hh k => rnclo_any l n w.heap.size (w.heap.size + 1) (.slice ad' l.length c') h w' hh (by omega) (RA.kp k) ((k.cell (p := ⟨w.heap.size, 0, none⟩) (by show w.heap.size < _; omega)).trans e0) ((k.cell (p := ⟨w.heap.size + 1, 0, none⟩) sz).trans e1)))
 have KS := Lib.hid (fun w' (k : Kp W2 w') => (show w'.cell? ⟨w.heap.size, 0, none⟩ = some (.slice ad' l.length c') ∧ w'.cell? ⟨w.heap.size + 1, 0, none⟩ = some (.int .i64 n) ∧ RunsAt w' (.slice ad' l.length c') l ∧ Below w.heap.size w w' from
  ⟨(k.cell (p := ⟨w.heap.size, 0, none⟩) (by show w.heap.size < _; omega)).trans e0, (k.cell (p := ⟨w.heap.size + 1, 0, none⟩) sz).trans e1, RA.kp k, KB.trans (Below.mono k (by omega))⟩))
 have HW := Lib.hid hW.symm
 clear hW RA KB hv0
 go_enter Tryz.func265, Tryz.ntmps265
 go_wp2_with fail
 rw [HW.out]
 refine (S.out).mono ?_
 rintro e w3 ⟨i, rfl, ⟨u1, u2, u3⟩, k3⟩
 obtain ⟨y0, y1, y2, y3⟩ := KS.out _ k3
 have NE := Lib.hid (NX.out i u1 (fun k hk => by
  have := u2 k hk
  unfold fB at this
  simp at this
  exact this.2) (fun hi => by
  have := u3 i (Nat.le_refl _) hi
  unfold fB at this
  simp at this
  omega))
 have Y3 := Lib.hid y3
 have Y2 := Lib.hid y2
 clear u2 u3 k3 y3 y2 e0 e1
 by_cases hi : i = l.length
 ·have N2 := Lib.hid (show nxt l n = (0, false) by rw [NE.out, if_pos hi])
  have g : ((i : Int) == (l.length : Int)) = true := by simp; omega
  clear NE hi
  go_wp2
  go_ret2
  refine ⟨?_, Y3.out⟩
  rw [N2.out]
  rfl
 ·have N2 := Lib.hid (show nxt l n = (max n (at_ l i).1, true) by rw [NE.out, if_neg hi])
  have g : ((i : Int) == (l.length : Int)) = false := by simp; omega
  have hi2 : i < l.length := by omega
  rcases Y2.out with ⟨_, _, _, e⟩ | ⟨b, off, cap, ev, hc, hm, hx⟩
  ·rw [e] at hi2; simp at hi2
  obtain ⟨d1, d2⟩ := hx i hi2
  cases ev
  obtain ⟨lo, elo⟩ : ∃ x, (at_ l i).1 = x := ⟨_, rfl⟩
  rw [elo] at d1 N2
  have z1 : (0 : Int) ≤ (i : Int) := by omega
  have z2 : (i : Int) < l.length := by omega
  clear NE hi elo d2 hx Y2
  go_wp2_with fail
  go_quiet (fail)
  go_wp2
  go_ret2
  refine ⟨?_, Y3.out.trans (Below.mono (Kp.drewN _ _) Y3.out.size)⟩
  rw [N2.out]
  rfl
set_option maxHeartbeats 1000000 in
theorem rpclo_any (l : List R) (n : Int) (B0 B1 : Nat) (v : Value) (h : Nat) (w : World) (hh : h < l.length) (hl : (l.length : Int) ≤ 9223372036854775807) (hv : RunsAt w v l) (c0 : w.cell? ⟨B0, 0, none⟩ = some v) (c1 : w.cell? ⟨B1, 0, none⟩ = some (.int .i64 n)) :
  Calls Tryz.prog 268 #[.int .i64 h, .pointer (some ⟨B0, 0, none⟩), .pointer (some ⟨B1, 0, none⟩)] w fun e w' => e = .returned (.bool (fP l n h)) ∧ Kp w w' := by
 rcases hv with ⟨ad0, cp0, rfl, rfl⟩ | ⟨b, off, cap, rfl, hc, hm, hx⟩
 ·simp at hh
 obtain ⟨d1, d2⟩ := hx h hh
 have E := Lib.hid (show fP l n h = decide (n < (at_ l h).1) by unfold fP; rw [show decide (l.length ≤ h) = false by simp; omega]; simp)
 have z1 : (0 : Int) ≤ (h : Int) := by omega
 have z2 : (h : Int) < l.length := by omega
 obtain ⟨y, ey⟩ : ∃ y, (at_ l h).1 = y := ⟨_, rfl⟩
 rw [ey] at d1 E
 clear hx ey d2 hc hm
 go_enter Tryz.func268, Tryz.ntmps268
 go_wp2_with fail
 go_quiet (fail)
 go_wp2
 go_ret
 exact ⟨ret_bool E.out.symm, Kp.drewN _ _⟩
set_option maxHeartbeats 2000000 in
theorem rprev_any (v : Value) (l : List R) (n : Int) (w : World) (hv0 : RunsAt w v l) (h : sane l) (hl : l.length ≤ 4611686018427387904) (nl : -9223372036854775808 ≤ n) (nh : n ≤ 9223372036854775807) :
  Calls Tryz.prog 266 #[v, .int .i64 n] w fun e w' => e = .returned (.tuple #[.int .i64 (prv l n).1, .bool (prv l n).2]) ∧ Kp w w' := by
 obtain ⟨ad', c', rfl⟩ := hv0.slice
 have MO := Lib.hid (fP_mono h n)
 have PX := Lib.hid (prv_at l n)
 clear h
 have hmf : ∀ (fn : Fn) (first cap : Array Value) (w : World), (Instr.makeFunc fn first cap).run Tryz.prog w = .ok (.func fn first cap) w := fun _ _ _ _ => rfl
 obtain ⟨W2, hW⟩ : ∃ W2, W2 = (w.alloc (.cells #[.slice ad' l.length c'] 43)).alloc (.cells #[.int .i64 n] 3) := ⟨_, rfl⟩
 have KB : Below w.heap.size w W2 := by rw [hW]; exact (Kp.alloc _ _).trans (Kp.alloc _ _)
 have RA : RunsAt W2 (.slice ad' l.length c') l := hv0.kp KB
 have e0 : W2.cell? ⟨w.heap.size, 0, none⟩ = some (.slice ad' l.length c') := by rw [hW]; simp
 have e1 : W2.cell? ⟨w.heap.size + 1, 0, none⟩ = some (.int .i64 n) := by rw [hW]; simp
 have sz : w.heap.size + 1 < W2.heap.size := by rw [hW]; simp
 have S := Lib.hid (search_any 268 #[.pointer (some ⟨w.heap.size, 0, none⟩), .pointer (some ⟨w.heap.size + 1, 0, none⟩)] (fP l n) l.length W2 hl (enters_of Tryz.func268 (by kernel_rfl) rfl) MO.out
  (fun h w' hh k => rpclo_any l n w.heap.size (w.heap.size + 1) (.slice ad' l.length c') h w' hh (by omega) (RA.kp k) ((k.cell (p := ⟨w.heap.size, 0, none⟩) (by show w.heap.size < _; omega)).trans e0) ((k.cell (p := ⟨w.heap.size + 1, 0, none⟩) sz).trans e1)))
 have KS := Lib.hid (fun w' (k : Kp W2 w') => (show w'.cell? ⟨w.heap.size, 0, none⟩ = some (.slice ad' l.length c') ∧ w'.cell? ⟨w.heap.size + 1, 0, none⟩ = some (.int .i64 n) ∧ RunsAt w' (.slice ad' l.length c') l ∧ Below w.heap.size w w' from
  ⟨(k.cell (p := ⟨w.heap.size, 0, none⟩) (by show w.heap.size < _; omega)).trans e0, (k.cell (p := ⟨w.heap.size + 1, 0, none⟩) sz).trans e1, RA.kp k, KB.trans (Below.mono k (by omega))⟩))
 have HW := Lib.hid hW.symm
 clear hW RA KB hv0
 go_enter Tryz.func266, Tryz.ntmps266
 go_wp2_with fail
 rw [HW.out]
 refine (S.out).mono ?_
 rintro e w3 ⟨i, rfl, ⟨u1, u2, u3⟩, k3⟩
 obtain ⟨y0, y1, y2, y3⟩ := KS.out _ k3
 have NE := Lib.hid (PX.out i u1 (fun k hk hk2 => by
  have := u3 k hk hk2
  unfold fP at this
  simp at this
  omega) (fun hi => by
  have := u2 (i - 1) (by omega)
  unfold fP at this
  simp at this
  exact this.2))
 have Y3 := Lib.hid y3
 have Y2 := Lib.hid y2
 clear u2 u3 k3 y3 y2 e0 e1
 by_cases hi : i = 0
 ·have N2 := Lib.hid (show prv l n = (0, false) by rw [NE.out, if_pos hi])
  have g : ((i : Int) == 0) = true := by simp; omega
  clear NE
  subst hi
  go_wp2
  go_ret2
  refine ⟨?_, Y3.out⟩
  rw [N2.out]
  rfl
 ·have N2 := Lib.hid (show prv l n = (min n (at_ l (i - 1)).2, true) by rw [NE.out, if_neg hi])
  have g : ((i : Int) == 0) = false := by simp; omega
  have g' : ¬ (i : Int) = 0 := by omega
  have hi2 : i - 1 < l.length := by omega
  rcases Y2.out with ⟨_, _, _, e⟩ | ⟨b, off, cap, ev, hc, hm, hx⟩
  ·rw [e] at hi2; simp at hi2
  obtain ⟨d1, d2⟩ := hx (i - 1) hi2
  cases ev
  obtain ⟨hi1, ehi⟩ : ∃ x, (at_ l (i - 1)).2 = x := ⟨_, rfl⟩
  rw [ehi] at d2 N2
  have wi1 : IntKind.i64.wrap ((i : Int) - 1) = ((i - 1 : Nat) : Int) := by rw [IntKind.wrap_i64]; omega
  have z1 : (0 : Int) ≤ ((i - 1 : Nat) : Int) := by omega
  have z2 : ((i - 1 : Nat) : Int) < l.length := by omega
  clear NE hi ehi d1 hx Y2
  go_wp2_with fail
  go_quiet (fail)
  go_wp2
  go_ret2
  refine ⟨?_, Y3.out.trans (Below.mono (Kp.drewN _ _) Y3.out.size)⟩
  rw [N2.out]
  rfl
def inBx (b : Int × Int × Int × Int) (S T : Int) : Prop := b.1 ≤ S ∧ S ≤ b.2.1 ∧ b.2.2.1 ≤ T ∧ T ≤ b.2.2.2
def bxV (b : Int × Int × Int × Int) : Value := .agg #[.int .i64 b.1, .int .i64 b.2.1, .int .i64 b.2.2.1, .int .i64 b.2.2.2]
def i64x (x : Int) : Prop := -9223372036854775808 ≤ x ∧ x ≤ 9223372036854775807
def bxOk (b : Int × Int × Int × Int) : Prop := i64x b.1 ∧ i64x b.2.1 ∧ i64x b.2.2.1 ∧ i64x b.2.2.2
def wiD (A : List R) (b : Int × Int × Int × Int) : Bool := (nxt A (max b.1 b.2.2.1)).2 && decide ((nxt A (max b.1 b.2.2.1)).1 ≤ min b.2.1 b.2.2.2)
def wiG (A B : List R) (b : Int × Int × Int × Int) : Bool := (nxt A b.1).2 && ((prv B b.2.2.2).2 && (decide ((nxt A b.1).1 ≤ b.2.1) && (decide ((prv B b.2.2.2).1 ≥ b.2.2.1) && decide ((nxt A b.1).1 ≤ (prv B b.2.2.2).1))))
theorem wiD_iff {A : List R} (h : sane A) (b : Int × Int × Int × Int) : wiD A b = true ↔ ∃ x, memR A x ∧ inBx b x x := by
 obtain ⟨b0, b1, b2, b3⟩ := b
 unfold wiD inBx
 simp only
 rcases nxt_spec A (max b0 b2) h with ⟨e, g⟩ | ⟨a, e, g1, g2, g3⟩
 ·rw [e]
  simp only [Bool.false_and, Bool.false_eq_true, false_iff]
  rintro ⟨x, hx, h1, h2, h3, h4⟩
  have := g x hx
  omega
 ·rw [e]
  simp only [Bool.true_and, decide_eq_true_eq]
  constructor
  ·intro h2
   exact ⟨a, g2, by omega, by omega, by omega, by omega⟩
  ·rintro ⟨x, hx, h1, h2, h3, h4⟩
   have := g3 x hx (by omega)
   omega
theorem wiG_iff {A B : List R} (hA : sane A) (hB : sane B) (b : Int × Int × Int × Int) : wiG A B b = true ↔ ∃ S T, S ≤ T ∧ memR A S ∧ memR B T ∧ inBx b S T := by
 obtain ⟨b0, b1, b2, b3⟩ := b
 unfold wiG inBx
 simp only
 rcases nxt_spec A b0 hA with ⟨e, g⟩ | ⟨a, e, g1, g2, g3⟩
 ·rw [e]
  simp only [Bool.false_and, Bool.false_eq_true, false_iff]
  rintro ⟨S, T, _, hS, hT, h1, h2, h3, h4⟩
  have := g S hS
  omega
 ·rcases prv_spec B b3 hB with ⟨e', g'⟩ | ⟨c, e', k1, k2, k3⟩
  ·rw [e, e']
   simp only [Bool.false_and, Bool.true_and, Bool.false_eq_true, false_iff]
   rintro ⟨S, T, _, hS, hT, h1, h2, h3, h4⟩
   have := g' T hT
   omega
  ·rw [e, e']
   simp only [Bool.true_and, Bool.and_eq_true, decide_eq_true_eq]
   constructor
   ·rintro ⟨h1, h2, h3⟩
    exact ⟨a, c, h3, g2, k2, by omega, by omega, by omega, by omega⟩
   ·rintro ⟨S, T, hST, hS, hT, h1, h2, h3, h4⟩
    have := g3 S hS (by omega)
    have := k3 T hT (by omega)
    omega
def lsP (d : Bool) (A B : List R) (S T : Int) : Prop := if d = true then S = T ∧ memR A S else S ≤ T ∧ memR A S ∧ memR B T
def wiL (d : Bool) (A B : List R) (b : Int × Int × Int × Int) : Bool := if d = true then wiD A b else wiG A B b
theorem wiL_iff {d : Bool} {A B : List R} (hA : sane A) (hB : sane B) (b : Int × Int × Int × Int) : wiL d A B b = true ↔ ∃ S T, lsP d A B S T ∧ inBx b S T := by
 unfold wiL lsP
 cases d with
 | true =>
  simp only [if_true]
  rw [wiD_iff hA]
  constructor
  ·rintro ⟨x, h1, h2⟩; exact ⟨x, x, ⟨rfl, h1⟩, h2⟩
  ·rintro ⟨S, T, ⟨rfl, h1⟩, h2⟩; exact ⟨_, h1, h2⟩
 | false =>
  simp only [Bool.false_eq_true, if_false]
  rw [wiG_iff hA hB]
  constructor
  ·rintro ⟨S, T, a, b, c, d⟩; exact ⟨S, T, ⟨a, b, c⟩, d⟩
  ·rintro ⟨S, T, ⟨a, b, c⟩, d⟩; exact ⟨S, T, a, b, c, d⟩
def riseP (L : List R) : Prop := L.Pairwise fun a b => a.1 ≤ b.1 ∧ a.2 ≤ b.2
theorem riseP_at {L : List R} (h : riseP L) {i j : Nat} (hij : i ≤ j) (hj : j < L.length) : (at_ L i).1 ≤ (at_ L j).1 ∧ (at_ L i).2 ≤ (at_ L j).2 := by
 by_cases e : i = j
 ·subst e; exact ⟨Int.le_refl _, Int.le_refl _⟩
 ·have := List.pairwise_iff_getElem.1 h i j (by omega) hj (by omega)
  unfold at_
  simpa [List.getD, List.getElem?_eq_getElem hj, List.getElem?_eq_getElem (show i < L.length by omega)] using this
def fL (L : List R) (a b : Int) (k : Nat) : Bool := decide (L.length ≤ k) || (decide (a ≤ (at_ L k).1) && decide (b ≤ (at_ L k).2))
theorem fL_mono {L : List R} (h : riseP L) (a b : Int) : ∀ i j, i ≤ j → fL L a b i = true → fL L a b j = true := by
 intro i j hij hi
 unfold fL at hi ⊢
 simp only [Bool.or_eq_true, Bool.and_eq_true, decide_eq_true_eq] at hi ⊢
 by_cases c : L.length ≤ j
 ·exact .inl c
 ·right
  rcases hi with hi | hi
  ·omega
  ·have := riseP_at h hij (by omega)
   omega
def wiA (L : List R) (b : Int × Int × Int × Int) (i : Nat) : Bool := decide (i < L.length) && (decide ((at_ L i).1 ≤ b.2.1) && decide ((at_ L i).2 ≤ b.2.2.2))
theorem wiA_iff {L : List R} (h : riseP L) (b : Int × Int × Int × Int) {i : Nat} (c : Cut (fL L b.1 b.2.2.1) L.length i) : wiA L b i = true ↔ ∃ S T, (S, T) ∈ L ∧ inBx b S T := by
 obtain ⟨c1, c2, c3⟩ := c
 unfold wiA inBx
 simp only [Bool.and_eq_true, decide_eq_true_eq]
 constructor
 ·rintro ⟨h1, h2, h3⟩
  have := c3 i (Nat.le_refl _) h1
  unfold fL at this
  simp only [Bool.or_eq_true, Bool.and_eq_true, decide_eq_true_eq] at this
  rcases this with q | q
  ·omega
  ·exact ⟨_, _, (show ((at_ L i).1, (at_ L i).2) ∈ L from at_mem h1), q.1, h2, q.2, h3⟩
 ·rintro ⟨S, T, hm, h1, h2, h3, h4⟩
  obtain ⟨j, hj, e⟩ := List.mem_iff_getElem.1 hm
  have ej : at_ L j = (S, T) := by unfold at_; simp [List.getD, List.getElem?_eq_getElem hj, e]
  have hij : i ≤ j := by
   rcases Nat.lt_or_ge j i with q | q
   ·have := c2 j q
    unfold fL at this
    simp only [ej, Bool.or_eq_false_iff, Bool.and_eq_false_iff, decide_eq_false_iff_not] at this
    omega
   ·exact q
  have := riseP_at h hij hj
  rw [ej] at this
  simp only at this
  exact ⟨by omega, by omega, by omega⟩
set_option maxHeartbeats 16000000 in
set_option maxRecDepth 100000 in
theorem lwithin_d (va vb : Value) (A B : List R) (b0 b1 b2 b3 : Int) (w : World) (hA : RunsAt w va A) (hB : RunsAt w vb B) (sA : sane A) (sB : sane B) (lA : A.length ≤ 1000000) (lB : B.length ≤ 1000000) (hb : bxOk (b0, b1, b2, b3)) :
  Calls Tryz.prog 264 #[.agg #[.bool true, va, vb], bxV (b0, b1, b2, b3)] w fun e w' => e = .returned (.bool (wiD A (b0, b1, b2, b3))) ∧ Kp w w' := by
 obtain ⟨ada, ca, rfl⟩ := hA.slice
 obtain ⟨adb, cb, rfl⟩ := hB.slice
 obtain ⟨⟨p0, q0⟩, ⟨p1, q1⟩, ⟨p2, q2⟩, ⟨p3, q3⟩⟩ := hb
 simp only at p0 q0 p1 q1 p2 q2 p3 q3
 unfold bxV
 simp only
 obtain ⟨W0, hW⟩ : ∃ x, x = (w.alloc (.cells #[.bool true, .slice ada A.length ca, .slice adb B.length cb] 93)).alloc (.cells #[.int .i64 b0, .int .i64 b1, .int .i64 b2, .int .i64 b3] 145) := ⟨_, rfl⟩
 have k0 : Kp w W0 := by rw [hW]; exact (Kp.alloc _ _).trans (Kp.alloc _ _)
 have gA : W0.heap[w.heap.size]? = some (.cells #[.bool true, .slice ada A.length ca, .slice adb B.length cb] 93 (0, 0)) := by rw [hW]; exact heap_block (Kp.alloc _ _) (heap_at _ _ _ rfl)
 have gB : W0.heap[w.heap.size + 1]? = some (.cells #[.int .i64 b0, .int .i64 b1, .int .i64 b2, .int .i64 b3] 145 (0, 0)) := by rw [hW]; exact heap_at _ _ _ (by simp)
 have K0 := Lib.hid k0
 have KS := Lib.hid (fun w' (kq : Kp W0 w') => show (w'.heap[w.heap.size]? = some (.cells #[.bool true, .slice ada A.length ca, .slice adb B.length cb] 93 (0, 0))) ∧ w'.heap[w.heap.size + 1]? = some (.cells #[.int .i64 b0, .int .i64 b1, .int .i64 b2, .int .i64 b3] 145 (0, 0)) from ⟨heap_block kq gA, heap_block kq gB⟩)
 have HW := Lib.hid hW
 clear hW gA gB k0
 have NX := Lib.hid (fun w1 (k : Kp W0 w1) => rnext_any (.slice ada A.length ca) A (max b0 b2) w1 (hA.kp (K0.out.trans k)) sA (by omega) (by omega) (by omega))
 have E := Lib.hid (show wiD A (b0, b1, b2, b3) = ((nxt A (max b0 b2)).2 && decide ((nxt A (max b0 b2)).1 ≤ min b1 b3)) from rfl)
 obtain ⟨R, hR⟩ : ∃ R, nxt A (max b0 b2) = R := ⟨_, rfl⟩
 rw [hR] at NX E
 obtain ⟨x, ok⟩ := R
 simp only at NX E
 clear hA hB sA sB lA lB hR
 go_enter Tryz.func264, Tryz.ntmps264
 go_upto_region 1 with fail
 rw [← HW.out]
 obtain ⟨g0, g1⟩ := KS.out _ (Kp.refl _)
 obtain ⟨c0, c1, c2⟩ := row3 g0
 obtain ⟨d0, d1, d2, d3⟩ := row4 g1
 clear g0 g1
 go_wp2_with fail
 refine (NX.out _ (Kp.refl _)).mono ?_
 rintro e w1 ⟨rfl, k1⟩
 have K1 := Lib.hid k1
 clear c0 c1 c2 d0 d1 d2 d3
 obtain ⟨g0, g1⟩ := KS.out _ k1
 obtain ⟨c0, c1, c2⟩ := row3 g0
 obtain ⟨d0, d1, d2, d3⟩ := row4 g1
 clear g0 g1
 clear k1
 cases ok with
 | false =>
  have E2 := Lib.hid (show wiD A (b0, b1, b2, b3) = false from E.out)
  go_wp2
  go_ret
  exact ⟨ret_bool E2.out.symm, K0.out.trans K1.out⟩
 | true =>
  have E2 := Lib.hid (show wiD A (b0, b1, b2, b3) = decide (x ≤ min b1 b3) from E.out)
  rcases Bool.eq_false_or_eq_true (decide (x ≤ min b1 b3)) with q | q
  ·have E3 := Lib.hid (show wiD A (b0, b1, b2, b3) = true by rw [E2.out, q])
   go_wp2
   go_ret
   exact ⟨ret_bool E3.out.symm, K0.out.trans K1.out⟩
  ·have E3 := Lib.hid (show wiD A (b0, b1, b2, b3) = false by rw [E2.out, q])
   go_wp2
   go_ret
   exact ⟨ret_bool E3.out.symm, K0.out.trans K1.out⟩
set_option maxHeartbeats 16000000 in
set_option maxRecDepth 100000 in
theorem lwithin_g (va vb : Value) (A B : List R) (b0 b1 b2 b3 : Int) (w : World) (hA : RunsAt w va A) (hB : RunsAt w vb B) (sA : sane A) (sB : sane B) (lA : A.length ≤ 1000000) (lB : B.length ≤ 1000000) (hb : bxOk (b0, b1, b2, b3)) :
  Calls Tryz.prog 264 #[.agg #[.bool false, va, vb], bxV (b0, b1, b2, b3)] w fun e w' => e = .returned (.bool (wiG A B (b0, b1, b2, b3))) ∧ Kp w w' := by
 obtain ⟨ada, ca, rfl⟩ := hA.slice
 obtain ⟨adb, cb, rfl⟩ := hB.slice
 obtain ⟨⟨p0, q0⟩, ⟨p1, q1⟩, ⟨p2, q2⟩, ⟨p3, q3⟩⟩ := hb
 simp only at p0 q0 p1 q1 p2 q2 p3 q3
 unfold bxV
 simp only
 obtain ⟨W0, hW⟩ : ∃ x, x = (w.alloc (.cells #[.bool false, .slice ada A.length ca, .slice adb B.length cb] 93)).alloc (.cells #[.int .i64 b0, .int .i64 b1, .int .i64 b2, .int .i64 b3] 145) := ⟨_, rfl⟩
 have k0 : Kp w W0 := by rw [hW]; exact (Kp.alloc _ _).trans (Kp.alloc _ _)
 have gA : W0.heap[w.heap.size]? = some (.cells #[.bool false, .slice ada A.length ca, .slice adb B.length cb] 93 (0, 0)) := by rw [hW]; exact heap_block (Kp.alloc _ _) (heap_at _ _ _ rfl)
 have gB : W0.heap[w.heap.size + 1]? = some (.cells #[.int .i64 b0, .int .i64 b1, .int .i64 b2, .int .i64 b3] 145 (0, 0)) := by rw [hW]; exact heap_at _ _ _ (by simp)
 have K0 := Lib.hid k0
 have KS := Lib.hid (fun w' (kq : Kp W0 w') => show (w'.heap[w.heap.size]? = some (.cells #[.bool false, .slice ada A.length ca, .slice adb B.length cb] 93 (0, 0))) ∧ w'.heap[w.heap.size + 1]? = some (.cells #[.int .i64 b0, .int .i64 b1, .int .i64 b2, .int .i64 b3] 145 (0, 0)) from ⟨heap_block kq gA, heap_block kq gB⟩)
 have HW := Lib.hid hW
 clear hW gA gB k0
 have NX := Lib.hid (fun w1 (k : Kp W0 w1) => rnext_any (.slice ada A.length ca) A b0 w1 (hA.kp (K0.out.trans k)) sA (by omega) (by omega) (by omega))
 have PX := Lib.hid (fun w1 (k : Kp W0 w1) => rprev_any (.slice adb B.length cb) B b3 w1 (hB.kp (K0.out.trans k)) sB (by omega) (by omega) (by omega))
 have E := Lib.hid (show wiG A B (b0, b1, b2, b3) = ((nxt A b0).2 && ((prv B b3).2 && (decide ((nxt A b0).1 ≤ b1) && (decide ((prv B b3).1 ≥ b2) && decide ((nxt A b0).1 ≤ (prv B b3).1))))) from rfl)
 obtain ⟨R, hR⟩ : ∃ R, nxt A b0 = R := ⟨_, rfl⟩
 rw [hR] at NX E
 obtain ⟨x, ok⟩ := R
 obtain ⟨R', hR'⟩ : ∃ R, prv B b3 = R := ⟨_, rfl⟩
 rw [hR'] at PX E
 obtain ⟨y, ok'⟩ := R'
 simp only at NX PX E
 clear hA hB sA sB lA lB hR hR'
 go_enter Tryz.func264, Tryz.ntmps264
 go_upto_region 1 with fail
 rw [← HW.out]
 obtain ⟨g0, g1⟩ := KS.out _ (Kp.refl _)
 obtain ⟨c0, c1, c2⟩ := row3 g0
 obtain ⟨d0, d1, d2, d3⟩ := row4 g1
 clear g0 g1
 go_wp2_with fail
 refine (NX.out _ (Kp.refl _)).mono ?_
 rintro e w1 ⟨rfl, k1⟩
 have K1 := Lib.hid k1
 clear c0 c1 c2 d0 d1 d2 d3
 obtain ⟨g0, g1⟩ := KS.out _ k1
 obtain ⟨c0, c1, c2⟩ := row3 g0
 obtain ⟨d0, d1, d2, d3⟩ := row4 g1
 clear g0 g1
 clear k1
 go_wp2_with fail
 refine (PX.out _ K1.out).mono ?_
 rintro e w2 ⟨rfl, k2⟩
 have K2 := Lib.hid k2
 clear c0 c1 c2 d0 d1 d2 d3
 obtain ⟨g0, g1⟩ := KS.out _ (K1.out.trans k2)
 obtain ⟨c0, c1, c2⟩ := row3 g0
 obtain ⟨d0, d1, d2, d3⟩ := row4 g1
 clear g0 g1
 clear k2
 cases ok with
 | false =>
  have E3 := Lib.hid (show wiG A B (b0, b1, b2, b3) = false by rw [E.out]; rfl)
  go_wp2
  go_ret
  exact ⟨ret_bool E3.out.symm, K0.out.trans (K1.out.trans K2.out)⟩
 | true =>
  cases ok' with
  | false =>
   have E3 := Lib.hid (show wiG A B (b0, b1, b2, b3) = false by rw [E.out]; rfl)
   go_wp2
   go_ret
   exact ⟨ret_bool E3.out.symm, K0.out.trans (K1.out.trans K2.out)⟩
  | true =>
   rcases Bool.eq_false_or_eq_true (decide (x ≤ b1)) with u1 | u1
   rotate_left
   ·have E3 := Lib.hid (show wiG A B (b0, b1, b2, b3) = false by rw [E.out, u1]; rfl)
    go_wp2
    go_ret
    exact ⟨ret_bool E3.out.symm, K0.out.trans (K1.out.trans K2.out)⟩
   rcases Bool.eq_false_or_eq_true (decide (y ≥ b2)) with u2 | u2
   rotate_left
   ·have E3 := Lib.hid (show wiG A B (b0, b1, b2, b3) = false by rw [E.out, u1, u2]; rfl)
    go_wp2
    go_ret
    exact ⟨ret_bool E3.out.symm, K0.out.trans (K1.out.trans K2.out)⟩
   rcases Bool.eq_false_or_eq_true (decide (x ≤ y)) with u3 | u3
   ·have E3 := Lib.hid (show wiG A B (b0, b1, b2, b3) = true by rw [E.out, u1, u2, u3]; rfl)
    go_wp2
    go_ret
    exact ⟨ret_bool E3.out.symm, K0.out.trans (K1.out.trans K2.out)⟩
   ·have E3 := Lib.hid (show wiG A B (b0, b1, b2, b3) = false by rw [E.out, u1, u2, u3]; rfl)
    go_wp2
    go_ret
    exact ⟨ret_bool E3.out.symm, K0.out.trans (K1.out.trans K2.out)⟩
theorem lwithin_any (d : Bool) (va vb : Value) (A B : List R) (b0 b1 b2 b3 : Int) (w : World) (hA : RunsAt w va A) (hB : RunsAt w vb B) (sA : sane A) (sB : sane B) (lA : A.length ≤ 1000000) (lB : B.length ≤ 1000000) (hb : bxOk (b0, b1, b2, b3)) :
  Calls Tryz.prog 264 #[.agg #[.bool d, va, vb], bxV (b0, b1, b2, b3)] w fun e w' => e = .returned (.bool (wiL d A B (b0, b1, b2, b3))) ∧ Kp w w' := by
 cases d with
 | true => exact lwithin_d va vb A B b0 b1 b2 b3 w hA hB sA sB lA lB hb
 | false => exact lwithin_g va vb A B b0 b1 b2 b3 w hA hB sA sB lA lB hb
set_option maxHeartbeats 16000000 in
set_option maxRecDepth 100000 in
theorem lclo_any (L : List R) (b0 b2 : Int) (B0 B1 : Nat) (v : Value) (h : Nat) (w : World) (hh : h < L.length) (hl : (L.length : Int) ≤ 9223372036854775807) (hv : RunsAt w v L) (c0 : w.cell? ⟨B0, 0, none⟩ = some v) (d0 : w.cell? ⟨B1, 0, none⟩ = some (.int .i64 b0)) (d2 : w.cell? ⟨B1, 2, none⟩ = some (.int .i64 b2)) :
  Calls Tryz.prog 270 #[.int .i64 h, .pointer (some ⟨B0, 0, none⟩), .pointer (some ⟨B1, 0, none⟩)] w fun e w' => e = .returned (.bool (fL L b0 b2 h)) ∧ Kp w w' := by
 rcases hv with ⟨ad0, cp0, rfl, rfl⟩ | ⟨b, off, cap, rfl, hc, hm, hx⟩
 ·simp at hh
 obtain ⟨x1, x2⟩ := hx h hh
 have E := Lib.hid (show fL L b0 b2 h = (decide (b0 ≤ (at_ L h).1) && decide (b2 ≤ (at_ L h).2)) by unfold fL; rw [show decide (L.length ≤ h) = false by simp; omega]; simp)
 have z1 : (0 : Int) ≤ (h : Int) := by omega
 have z2 : (h : Int) < L.length := by omega
 obtain ⟨y, ey⟩ : ∃ y, (at_ L h).1 = y := ⟨_, rfl⟩
 obtain ⟨z, ez⟩ : ∃ y, (at_ L h).2 = y := ⟨_, rfl⟩
 rw [ey] at x1 E
 rw [ez] at x2 E
 clear hx ey ez hc hm
 rcases Bool.eq_false_or_eq_true (decide (b0 ≤ y)) with u1 | u1
 rotate_left
 ·have E2 := Lib.hid (show fL L b0 b2 h = false by rw [E.out, u1]; rfl)
  have u1' : decide (y ≥ b0) = false := u1
  go_enter Tryz.func270, Tryz.ntmps270
  go_wp2_with fail
  go_quiet (fail)
  go_wp2
  go_ret
  exact ⟨ret_bool E2.out.symm, Kp.drewN _ _⟩
 have u1' : decide (y ≥ b0) = true := u1
 rcases Bool.eq_false_or_eq_true (decide (b2 ≤ z)) with u2 | u2
 ·have E2 := Lib.hid (show fL L b0 b2 h = true by rw [E.out, u1, u2]; rfl)
  have u2' : decide (z ≥ b2) = true := u2
  go_enter Tryz.func270, Tryz.ntmps270
  go_wp2_with fail
  go_quiet (fail)
  go_wp2
  go_ret
  exact ⟨ret_bool E2.out.symm, Kp.drewN _ _⟩
 ·have E2 := Lib.hid (show fL L b0 b2 h = false by rw [E.out, u1, u2]; rfl)
  have u2' : decide (z ≥ b2) = false := u2
  go_enter Tryz.func270, Tryz.ntmps270
  go_wp2_with fail
  go_quiet (fail)
  go_wp2
  go_ret
  exact ⟨ret_bool E2.out.symm, Kp.drewN _ _⟩
set_option maxHeartbeats 16000000 in
set_option maxRecDepth 100000 in
theorem dwithin_any (va : Value) (L : List R) (b0 b1 b2 b3 : Int) (w : World) (hA : RunsAt w va L) (rL : riseP L) (lA : L.length ≤ 1000000) (hb : bxOk (b0, b1, b2, b3)) :
  Calls Tryz.prog 269 #[va, bxV (b0, b1, b2, b3)] w fun e w' => ∃ b : Bool, e = .returned (.bool b) ∧ (b = true ↔ ∃ S T, (S, T) ∈ L ∧ inBx (b0, b1, b2, b3) S T) ∧ Kp w w' := by
 obtain ⟨ada, ca, rfl⟩ := hA.slice
 obtain ⟨⟨p0, q0⟩, ⟨p1, q1⟩, ⟨p2, q2⟩, ⟨p3, q3⟩⟩ := hb
 simp only at p0 q0 p1 q1 p2 q2 p3 q3
 unfold bxV
 simp only
 obtain ⟨W0, hW⟩ : ∃ x, x = (w.alloc (.cells #[.slice ada L.length ca] 99)).alloc (.cells #[.int .i64 b0, .int .i64 b1, .int .i64 b2, .int .i64 b3] 145) := ⟨_, rfl⟩
 have k0 : Kp w W0 := by rw [hW]; exact (Kp.alloc _ _).trans (Kp.alloc _ _)
 have gA : W0.heap[w.heap.size]? = some (.cells #[.slice ada L.length ca] 99 (0, 0)) := by rw [hW]; exact heap_block (Kp.alloc _ _) (heap_at _ _ _ rfl)
 have gB : W0.heap[w.heap.size + 1]? = some (.cells #[.int .i64 b0, .int .i64 b1, .int .i64 b2, .int .i64 b3] 145 (0, 0)) := by rw [hW]; exact heap_at _ _ _ (by simp)
 have K0 := Lib.hid k0
 have KS := Lib.hid (fun w' (kq : Kp W0 w') => show (w'.heap[w.heap.size]? = some (.cells #[.slice ada L.length ca] 99 (0, 0))) ∧ w'.heap[w.heap.size + 1]? = some (.cells #[.int .i64 b0, .int .i64 b1, .int .i64 b2, .int .i64 b3] 145 (0, 0)) from ⟨heap_block kq gA, heap_block kq gB⟩)
 have HW := Lib.hid hW
 clear hW gA gB k0
 have hmf : ∀ (fn : Fn) (first cap : Array Value) (w : World), (Instr.makeFunc fn first cap).run Tryz.prog w = .ok (.func fn first cap) w := fun _ _ _ _ => rfl
 have S := Lib.hid (search_any 270 #[.pointer (some ⟨w.heap.size, 0, none⟩), .pointer (some ⟨w.heap.size + 1, 0, none⟩)] (fL L b0 b2) L.length W0 (by omega) (enters_of Tryz.func270 (by kernel_rfl) rfl) (fL_mono rL b0 b2)
  (fun h w' hh k => lclo_any L b0 b2 w.heap.size (w.heap.size + 1) (.slice ada L.length ca) h w' hh (by omega) (hA.kp (K0.out.trans k)) (row1 (KS.out _ k).1) (row4 (KS.out _ k).2).1 (row4 (KS.out _ k).2).2.2.1))
 have WA := Lib.hid (fun i c => wiA_iff rL (b0, b1, b2, b3) (i := i) c)
 have HV := Lib.hid (fun w' (k : Kp W0 w') => hA.kp (K0.out.trans k))
 have hlen : (L.length : Int) ≤ 9223372036854775807 := by omega
 clear rL hA
 go_enter Tryz.func269, Tryz.ntmps269
 go_upto_region 1 with fail
 rw [← HW.out]
 obtain ⟨g0, g1⟩ := KS.out _ (Kp.refl _)
 have c0 := row1 g0
 obtain ⟨d0, d1, d2, d3⟩ := row4 g1
 clear g0 g1
 go_wp2_with fail
 refine (S.out).mono ?_
 rintro e w1 ⟨i, rfl, CU, k1⟩
 have K1 := Lib.hid k1
 have W1 := Lib.hid (WA.out i CU)
 clear c0 d0 d1 d2 d3
 obtain ⟨g0, g1⟩ := KS.out _ k1
 have c0 := row1 g0
 obtain ⟨d0, d1, d2, d3⟩ := row4 g1
 have RV := HV.out _ k1
 have ile : i ≤ L.length := CU.1
 clear g0 g1 k1 CU S WA
 have z1 : (0 : Int) ≤ (i : Int) := by omega
 by_cases hi : i < L.length
 rotate_left
 ·have E2 := Lib.hid (show wiA L (b0, b1, b2, b3) i = false by unfold wiA; rw [decide_eq_false hi]; rfl)
  have q : decide ((i : Int) < (L.length : Int)) = false := decide_eq_false (by omega)
  have q' : decide (i < L.length) = false := decide_eq_false hi
  go_wp2_with fail
  go_quiet (fail)
  go_wp2
  go_ret
  exact ⟨_, ret_bool rfl, by rw [E2.out] at W1; exact W1.out, K0.out.trans (K1.out.trans (Kp.drewN _ _))⟩
 have z2 : (i : Int) < L.length := by omega
 have q : decide ((i : Int) < (L.length : Int)) = true := decide_eq_true z2
 have q' : decide (i < L.length) = true := decide_eq_true hi
 rcases RV with ⟨_, _, _, e⟩ | ⟨b, off, cap, ev, hc, hm, hx⟩
 ·rw [e] at hi; simp at hi
 obtain ⟨x1, x2⟩ := hx i hi
 cases ev
 have E := Lib.hid (show wiA L (b0, b1, b2, b3) i = (decide ((at_ L i).1 ≤ b1) && decide ((at_ L i).2 ≤ b3)) by unfold wiA; rw [decide_eq_true hi]; rfl)
 obtain ⟨y, ey⟩ : ∃ y, (at_ L i).1 = y := ⟨_, rfl⟩
 obtain ⟨z, ez⟩ : ∃ y, (at_ L i).2 = y := ⟨_, rfl⟩
 rw [ey] at x1 E
 rw [ez] at x2 E
 clear hx ey ez hc hm
 rcases Bool.eq_false_or_eq_true (decide (y ≤ b1)) with u1 | u1
 rotate_left
 ·have E2 := Lib.hid (show wiA L (b0, b1, b2, b3) i = false by rw [E.out, u1]; rfl)
  go_wp2_with fail
  go_quiet (fail)
  go_wp2
  go_ret
  exact ⟨_, ret_bool rfl, by rw [E2.out] at W1; exact W1.out, K0.out.trans (K1.out.trans (Kp.drewN _ _))⟩
 rcases Bool.eq_false_or_eq_true (decide (z ≤ b3)) with u2 | u2
 ·have E2 := Lib.hid (show wiA L (b0, b1, b2, b3) i = true by rw [E.out, u1, u2]; rfl)
  go_wp2_with fail
  go_quiet (fail)
  go_wp2
  go_ret
  exact ⟨_, ret_bool rfl, by rw [E2.out] at W1; exact W1.out, K0.out.trans (K1.out.trans (Kp.drewN _ _))⟩
 ·have E2 := Lib.hid (show wiA L (b0, b1, b2, b3) i = false by rw [E.out, u1, u2]; rfl)
  go_wp2_with fail
  go_quiet (fail)
  go_wp2
  go_ret
  exact ⟨_, ret_bool rfl, by rw [E2.out] at W1; exact W1.out, K0.out.trans (K1.out.trans (Kp.drewN _ _))⟩
def wayB (r : Nat) (S T : Int) : Int × Int × Int × Int :=
 match r with
 | 0 => (T + 2, 3652424, 0, 3652424) | 1 => (T + 1, T + 1, 0, 3652424) | 2 => (S + 1, T, T + 1, 3652424) | 3 => (S, S, T + 1, 3652424) | 4 => (0, S - 1, T + 1, 3652424)
 | 5 => (0, S - 1, T, T) | 6 => (S, S, T, T) | 7 => (S + 1, 3652424, T, T) | 8 => (S + 1, 3652424, 0, T - 1) | 9 => (S, S, 0, T - 1) | 10 => (0, S - 1, S, T - 1)
 | 11 => (0, 3652424, S - 1, S - 1) | _ => (0, 3652424, 0, S - 2)
theorem way_rel {r : Nat} (hr : r ≤ 12) {S T S' T' : Int} (h1 : S ≤ T) (h2 : S' ≤ T') (b1 : 0 ≤ S) (b2 : T ≤ 3652424) (b3 : 0 ≤ S') (b4 : T' ≤ 3652424) : inBx (wayB r S T) S' T' ↔ rel S T S' T' = r := by
 unfold inBx
 obtain rfl | rfl | rfl | rfl | rfl | rfl | rfl | rfl | rfl | rfl | rfl | rfl | rfl : r = 0 ∨ r = 1 ∨ r = 2 ∨ r = 3 ∨ r = 4 ∨ r = 5 ∨ r = 6 ∨ r = 7 ∨ r = 8 ∨ r = 9 ∨ r = 10 ∨ r = 11 ∨ r = 12 := by omega
 all_goals
  simp only [wayB]
  unfold rel
  (repeat' split) <;> omega
structure LsOkP (d : Bool) (A B : List R) : Prop where
 sa : sane A
 sb : sane B
 na : 0 < A.length
 nb : 0 < B.length
 eq : d = true → B = A
 up : ∀ n, memR A n → ∃ m, memR B m ∧ n ≤ m
 dn : ∀ m, memR B m → ∃ n, memR A n ∧ n ≤ m
 ba : ∀ n, memR A n → 0 ≤ n ∧ n ≤ 3652424
 bb : ∀ n, memR B n → 0 ≤ n ∧ n ≤ 3652424
theorem LsOkP.lo {d : Bool} {A B : List R} (h : LsOkP d A B) : memR A (leastR A) ∧ (∀ n, memR A n → leastR A ≤ n) ∧ (∀ n, memR B n → leastR A ≤ n) ∧ memR B (leastR B) ∧ ∀ n, memR B n → leastR B ≤ n := by
 refine ⟨least_mem h.sa h.na, fun n m => least_min h.sa m, fun n m => ?_, least_mem h.sb h.nb, fun n m => least_min h.sb m⟩
 obtain ⟨k, hk, hle⟩ := h.dn n m
 have := least_min h.sa hk
 omega
theorem LsOkP.hi {d : Bool} {A B : List R} (h : LsOkP d A B) : memR B (greatR B) ∧ (∀ n, memR B n → n ≤ greatR B) ∧ (∀ n, memR A n → n ≤ greatR B) ∧ memR A (greatR A) ∧ ∀ n, memR A n → n ≤ greatR A := by
 refine ⟨great_mem h.sb h.nb, fun n m => great_max h.sb m, fun n m => ?_, great_mem h.sa h.na, fun n m => great_max h.sa m⟩
 obtain ⟨k, hk, hle⟩ := h.up n m
 have := great_max h.sb hk
 omega
def edgL (l : List (List R)) : List Int := l.flatMap fun s => if s.length = 0 then [] else [leastR s, greatR s]
theorem edgL_mem {l : List (List R)} {s : List R} (hs : s ∈ l) (h0 : 0 < s.length) : leastR s ∈ edgL l ∧ greatR s ∈ edgL l := by
 unfold edgL
 rw [List.mem_flatMap, List.mem_flatMap]
 have e : (if s.length = 0 then ([] : List Int) else [leastR s, greatR s]) = [leastR s, greatR s] := if_neg (by omega)
 exact ⟨⟨s, hs, by rw [e]; simp⟩, ⟨s, hs, by rw [e]; simp⟩⟩
theorem edgL_of {l : List (List R)} (hl : ∀ s ∈ l, sane s) {x : Int} (h : x ∈ edgL l) : ∃ s ∈ l, memR s x := by
 unfold edgL at h
 rw [List.mem_flatMap] at h
 obtain ⟨s, hs, hx⟩ := h
 by_cases h0 : s.length = 0
 ·rw [if_pos h0] at hx; cases hx
 ·rw [if_neg h0] at hx
  refine ⟨s, hs, ?_⟩
  simp only [List.mem_cons, List.not_mem_nil, or_false] at hx
  rcases hx with rfl | rfl
  ·exact least_mem (hl s hs) (by omega)
  ·exact great_mem (hl s hs) (by omega)
def exS1 (A B C D : List R) : List Int := edgL [interR (interR A C) (interR B D)]
def exSt (A B C D : List R) : List Int := exS1 A B C D ++ edgL [A, interR A C, interR A [(leastR C + 1, 3652424)], interR A (nf (shR 1 1 D))]
def exEn (A B C D : List R) : List Int := exS1 A B C D ++ edgL [B, interR B D, interR B [(0, greatR D - 1)], interR B (nf (shR (-1) (-1) C))]
def exPs (d : Bool) (A B C D : List R) : List (Int × Int) :=
 if d = true then (exSt A B C D ++ exEn A B C D).map fun x => (x, x) else (exSt A B C D).flatMap fun s => ((exEn A B C D).filter fun t => decide (s ≤ t)).map fun t => (s, t)
theorem shR_mem {k : Int} (hk : -1 ≤ k ∧ k ≤ 1) {s : List R} (hb : ∀ r ∈ s, 0 ≤ r.1 ∧ r.2 ≤ 3652424) (n : Int) : memR (nf (shR k k s)) n ↔ memR s (n - k) := by
 rw [nf_mem]
 unfold shR memR
 constructor
 ·rintro ⟨r, hr, h1, h2, h3, h4⟩
  obtain ⟨q, hq, rfl⟩ := List.mem_map.1 hr
  have := hb q hq
  simp only at h1 h2
  exact ⟨q, hq, by omega, by omega, by omega, by omega⟩
 ·rintro ⟨q, hq, h1, h2, h3, h4⟩
  have := hb q hq
  exact ⟨_, List.mem_map.2 ⟨q, hq, rfl⟩, by simp only; omega, by simp only; omega, by omega, by omega⟩
theorem runs_bd {s : List R} (hs : sane s) (h : ∀ n, memR s n → 0 ≤ n ∧ n ≤ 3652424) : ∀ r ∈ s, 0 ≤ r.1 ∧ r.2 ≤ 3652424 := by
 intro r hr
 have o := sane_ok hs r hr
 unfold okR at o
 have a := h r.1 ⟨r, hr, by omega, by omega, by omega, by omega⟩
 have b := h r.2 ⟨r, hr, by omega, by omega, by omega, by omega⟩
 omega
theorem exSt_in {d : Bool} {A B C D : List R} (h : LsOkP d A B) {x : Int} (hx : x ∈ exSt A B C D) : memR A x := by
 unfold exSt exS1 at hx
 rcases List.mem_append.1 hx with hx | hx
 ·obtain ⟨s, hs, m⟩ := edgL_of (fun s hs => by rw [List.mem_singleton.1 hs]; exact interR_sane _ _) hx
  rw [List.mem_singleton.1 hs, interR_mem, interR_mem] at m
  exact m.1.1
 ·obtain ⟨s, hs, m⟩ := edgL_of (fun s hs => by
   simp only [List.mem_cons, List.not_mem_nil, or_false] at hs
   rcases hs with rfl | rfl | rfl | rfl
   ·exact h.sa
   all_goals exact interR_sane _ _) hx
  simp only [List.mem_cons, List.not_mem_nil, or_false] at hs
  rcases hs with rfl | rfl | rfl | rfl
  ·exact m
  all_goals exact ((interR_mem _ _ _).1 m).1
theorem exEn_in {d : Bool} {A B C D : List R} (h : LsOkP d A B) {x : Int} (hx : x ∈ exEn A B C D) : memR B x := by
 unfold exEn exS1 at hx
 rcases List.mem_append.1 hx with hx | hx
 ·obtain ⟨s, hs, m⟩ := edgL_of (fun s hs => by rw [List.mem_singleton.1 hs]; exact interR_sane _ _) hx
  rw [List.mem_singleton.1 hs, interR_mem, interR_mem, interR_mem] at m
  exact m.2.1
 ·obtain ⟨s, hs, m⟩ := edgL_of (fun s hs => by
   simp only [List.mem_cons, List.not_mem_nil, or_false] at hs
   rcases hs with rfl | rfl | rfl | rfl
   ·exact h.sb
   all_goals exact interR_sane _ _) hx
  simp only [List.mem_cons, List.not_mem_nil, or_false] at hs
  rcases hs with rfl | rfl | rfl | rfl
  ·exact m
  all_goals exact ((interR_mem _ _ _).1 m).1
theorem exPs_in {d : Bool} {A B C D : List R} (h : LsOkP d A B) {p : Int × Int} (hp : p ∈ exPs d A B C D) : lsP d A B p.1 p.2 := by
 unfold exPs at hp
 unfold lsP
 cases d with
 | true =>
  simp only [if_true] at hp ⊢
  obtain ⟨x, hx, rfl⟩ := List.mem_map.1 hp
  refine ⟨rfl, ?_⟩
  rcases List.mem_append.1 hx with hx | hx
  ·exact exSt_in h hx
  ·have := exEn_in h hx
   rwa [h.eq rfl] at this
 | false =>
  simp only [Bool.false_eq_true, if_false] at hp ⊢
  obtain ⟨s, hs, hp⟩ := List.mem_flatMap.1 hp
  obtain ⟨t, ht, rfl⟩ := List.mem_map.1 hp
  have := List.mem_filter.1 ht
  exact ⟨of_decide_eq_true this.2, exSt_in h hs, exEn_in h this.1⟩
theorem exPs_f {A B C D : List R} {s t : Int} (hs : s ∈ exSt A B C D) (ht : t ∈ exEn A B C D) (h : s ≤ t) : (s, t) ∈ exPs false A B C D := by
 unfold exPs
 rw [if_neg (by simp)]
 exact List.mem_flatMap.2 ⟨s, hs, List.mem_map.2 ⟨t, List.mem_filter.2 ⟨ht, decide_eq_true h⟩, rfl⟩⟩
theorem exPs_t {A B C D : List R} {x : Int} (hs : x ∈ exSt A B C D ∨ x ∈ exEn A B C D) : (x, x) ∈ exPs true A B C D := by
 unfold exPs
 rw [if_pos rfl]
 exact List.mem_map.2 ⟨x, List.mem_append.2 hs, rfl⟩
theorem set_ends {s : List R} (hs : sane s) {n : Int} (h : memR s n) : 0 < s.length ∧ memR s (leastR s) ∧ leastR s ≤ n ∧ memR s (greatR s) ∧ n ≤ greatR s :=
 ⟨mem_pos h, least_mem hs (mem_pos h), least_min hs h, great_mem hs (mem_pos h), great_max hs h⟩
theorem st_mem {A B C D s : List R} (hs : s ∈ [A, interR A C, interR A [(leastR C + 1, 3652424)], interR A (nf (shR 1 1 D))]) (h0 : 0 < s.length) : leastR s ∈ exSt A B C D ∧ greatR s ∈ exSt A B C D :=
 ⟨List.mem_append.2 (.inr (edgL_mem hs h0).1), List.mem_append.2 (.inr (edgL_mem hs h0).2)⟩
theorem en_mem {A B C D s : List R} (hs : s ∈ [B, interR B D, interR B [(0, greatR D - 1)], interR B (nf (shR (-1) (-1) C))]) (h0 : 0 < s.length) : leastR s ∈ exEn A B C D ∧ greatR s ∈ exEn A B C D :=
 ⟨List.mem_append.2 (.inr (edgL_mem hs h0).1), List.mem_append.2 (.inr (edgL_mem hs h0).2)⟩
theorem s1_mem {A B C D : List R} (h0 : 0 < (interR (interR A C) (interR B D)).length) : leastR (interR (interR A C) (interR B D)) ∈ exSt A B C D ∧ leastR (interR (interR A C) (interR B D)) ∈ exEn A B C D :=
 ⟨List.mem_append.2 (.inl (edgL_mem (by simp) h0).1), List.mem_append.2 (.inl (edgL_mem (by simp) h0).1)⟩
theorem ls_f {A B : List R} {S T : Int} (h : lsP false A B S T) : S ≤ T ∧ memR A S ∧ memR B T := by unfold lsP at h; rwa [if_neg (by simp)] at h
theorem ls_t {A B : List R} {S T : Int} (h : lsP true A B S T) : S = T ∧ memR A S := by unfold lsP at h; rwa [if_pos rfl] at h
theorem ls_mk {A B : List R} {S T : Int} (h1 : S ≤ T) (h2 : memR A S) (h3 : memR B T) : lsP false A B S T := by unfold lsP; rw [if_neg (by simp)]; exact ⟨h1, h2, h3⟩
theorem ls_mkt {A B : List R} {S : Int} (h2 : memR A S) : lsP true A B S S := by unfold lsP; rw [if_pos rfl]; exact ⟨rfl, h2⟩
theorem ls_le {d : Bool} {A B : List R} (h : LsOkP d A B) {S T : Int} (p : lsP d A B S T) : S ≤ T ∧ memR A S ∧ memR B T := by
 cases d with
 | true => obtain ⟨rfl, q⟩ := ls_t p; exact ⟨Int.le_refl _, q, by rw [h.eq rfl]; exact q⟩
 | false => exact ls_f p
set_option maxHeartbeats 4000000 in
theorem ex_ff {A B C D : List R} (h : LsOkP false A B) (g : LsOkP false C D) {r : Nat} (hr : r ≤ 12) {S T S' T' : Int} (hp : lsP false A B S T) (hq : lsP false C D S' T') (hb : inBx (wayB r S T) S' T') :
  ∃ p ∈ exPs false A B C D, ∃ s' t', lsP false C D s' t' ∧ inBx (wayB r p.1 p.2) s' t' := by
 obtain ⟨p1, pA, pB⟩ := ls_le h hp
 obtain ⟨q1, qC, qD⟩ := ls_le g hq
 obtain ⟨la1, la2, la3, lb1, lb2⟩ := h.lo
 obtain ⟨hb1, hb2, hb3, ha1, ha2⟩ := h.hi
 obtain ⟨lc1, lc2, lc3, ld1, ld2⟩ := g.lo
 obtain ⟨hd1, hd2, hd3, hc1, hc2⟩ := g.hi
 have bS := h.ba _ pA
 have bT := h.bb _ pB
 have bS' := g.ba _ qC
 have bT' := g.bb _ qD
 have bl1 := h.ba _ la1
 have bl2 := h.bb _ lb1
 have bg1 := h.bb _ hb1
 have bg2 := h.ba _ ha1
 have bl3 := g.ba _ lc1
 have bg3 := g.bb _ hd1
 have eAS := la2 _ pA
 have eBT := hb2 _ pB
 have eCS := lc2 _ qC
 have eDT := hd2 _ qD
 have eAB := la3 _ lb1
 have eAgB := hb3 _ ha1
 have eBl := lb2 _ pB
 have eAg := ha2 _ pA
 have eCD := lc3 _ hd1
 have rC := runs_bd g.sa g.ba
 have rD := runs_bd g.sb g.bb
 -- the sets of edges
 have X2 : ∀ n, memR (interR A C) n ↔ memR A n ∧ memR C n := fun n => interR_mem _ _ n
 have X3 : ∀ n, memR (interR A [(leastR C + 1, 3652424)]) n ↔ memR A n ∧ leastR C < n := fun n => by
  rw [interR_mem, memR_one]
  exact ⟨fun q => ⟨q.1, by omega⟩, fun q => ⟨q.1, by have := h.ba n q.1; omega⟩⟩
 have X4 : ∀ n, memR (interR A (nf (shR 1 1 D))) n ↔ memR A n ∧ memR D (n - 1) := fun n => by rw [interR_mem, shR_mem (by omega) rD]
 have Y2 : ∀ n, memR (interR B D) n ↔ memR B n ∧ memR D n := fun n => interR_mem _ _ n
 have Y3 : ∀ n, memR (interR B [(0, greatR D - 1)]) n ↔ memR B n ∧ n < greatR D := fun n => by
  rw [interR_mem, memR_one]
  exact ⟨fun q => ⟨q.1, by omega⟩, fun q => ⟨q.1, by have := h.bb n q.1; omega⟩⟩
 have Y4 : ∀ n, memR (interR B (nf (shR (-1) (-1) C))) n ↔ memR B n ∧ memR C (n + 1) := fun n => by rw [interR_mem, shR_mem (by omega) rC, show n - -1 = n + 1 by omega]
 have Z1 : ∀ n, memR (interR (interR A C) (interR B D)) n ↔ (memR A n ∧ memR C n) ∧ (memR B n ∧ memR D n) := fun n => by simp only [interR_mem]
 have S1 := interR_sane (interR A C) (interR B D)
 have S2 := interR_sane A C
 have S3 := interR_sane A [(leastR C + 1, 3652424)]
 have S4 := interR_sane A (nf (shR 1 1 D))
 have E2 := interR_sane B D
 have E3 := interR_sane B [(0, greatR D - 1)]
 have E4 := interR_sane B (nf (shR (-1) (-1) C))
 have mA := st_mem (A := A) (B := B) (C := C) (D := D) (s := A) (by simp) h.na
 have mB := en_mem (A := A) (B := B) (C := C) (D := D) (s := B) (by simp) h.nb
 have m2 := fun h0 => st_mem (A := A) (B := B) (C := C) (D := D) (s := interR A C) (by simp) h0
 have m3 := fun h0 => st_mem (A := A) (B := B) (C := C) (D := D) (s := interR A [(leastR C + 1, 3652424)]) (by simp) h0
 have m4 := fun h0 => st_mem (A := A) (B := B) (C := C) (D := D) (s := interR A (nf (shR 1 1 D))) (by simp) h0
 have n2 := fun h0 => en_mem (A := A) (B := B) (C := C) (D := D) (s := interR B D) (by simp) h0
 have n3 := fun h0 => en_mem (A := A) (B := B) (C := C) (D := D) (s := interR B [(0, greatR D - 1)]) (by simp) h0
 have n4 := fun h0 => en_mem (A := A) (B := B) (C := C) (D := D) (s := interR B (nf (shR (-1) (-1) C))) (by simp) h0
 have m1 := fun h0 => s1_mem (A := A) (B := B) (C := C) (D := D) h0
 -- the least (greatest) number of a set that has n
 have z1 := fun n q => set_ends S1 ((Z1 n).2 q)
 have z2 := fun n q => set_ends S2 ((X2 n).2 q)
 have z3 := fun n q => set_ends S3 ((X3 n).2 q)
 have z4 := fun n q => set_ends S4 ((X4 n).2 q)
 have y2 := fun n q => set_ends E2 ((Y2 n).2 q)
 have y3 := fun n q => set_ends E3 ((Y3 n).2 q)
 have y4 := fun n q => set_ends E4 ((Y4 n).2 q)
 obtain rfl | rfl | rfl | rfl | rfl | rfl | rfl | rfl | rfl | rfl | rfl | rfl | rfl : r = 0 ∨ r = 1 ∨ r = 2 ∨ r = 3 ∨ r = 4 ∨ r = 5 ∨ r = 6 ∨ r = 7 ∨ r = 8 ∨ r = 9 ∨ r = 10 ∨ r = 11 ∨ r = 12 := by omega
 ·simp only [inBx, wayB] at hb
  exact ⟨(leastR A, leastR B), exPs_f mA.1 mB.1 (by omega), S', T', hq, by simp only [inBx, wayB]; omega⟩
 ·simp only [inBx, wayB] at hb
  obtain ⟨k0, k1, k2, k3, k4⟩ := y4 T ⟨pB, (by rw [show T + 1 = S' by omega]; exact qC)⟩
  obtain ⟨k5, k6⟩ := (Y4 _).1 k1
  have k7 := la3 _ k5
  obtain ⟨m, u8, u9⟩ := g.up _ k6
  have u10 := g.bb _ u8
  exact ⟨(leastR A, leastR (interR B (nf (shR (-1) (-1) C)))), exPs_f mA.1 (n4 k0).1 (by omega), leastR (interR B (nf (shR (-1) (-1) C))) + 1, m, ls_mk u9 k6 u8, by simp only [inBx, wayB]; omega⟩
 ·simp only [inBx, wayB] at hb
  obtain ⟨j0, j1, j2, j3, j4⟩ := y3 T ⟨pB, by omega⟩
  obtain ⟨j5, j6⟩ := (Y3 _).1 j3
  exact ⟨(leastR A, greatR (interR B [(0, greatR D - 1)])), exPs_f mA.1 (n3 j0).2 (by omega), S', greatR D, ls_mk (by omega) qC hd1, by simp only [inBx, wayB]; omega⟩
 ·simp only [inBx, wayB] at hb
  obtain ⟨k0, k1, k2, k3, k4⟩ := z2 S ⟨pA, (by rw [show S = S' by omega]; exact qC)⟩
  obtain ⟨k5, k6⟩ := (X2 _).1 k1
  have k77 := h.ba _ k5
  obtain ⟨j0, j1, j2, j3, j4⟩ := y3 T ⟨pB, by omega⟩
  obtain ⟨j5, j6⟩ := (Y3 _).1 j3
  exact ⟨(leastR (interR A C), greatR (interR B [(0, greatR D - 1)])), exPs_f (m2 k0).1 (n3 j0).2 (by omega), leastR (interR A C), greatR D, ls_mk (by omega) k6 hd1, by simp only [inBx, wayB]; omega⟩
 ·simp only [inBx, wayB] at hb
  obtain ⟨k0, k1, k2, k3, k4⟩ := z3 S ⟨pA, by omega⟩
  obtain ⟨k5, k6⟩ := (X3 _).1 k1
  obtain ⟨j0, j1, j2, j3, j4⟩ := y3 T ⟨pB, by omega⟩
  obtain ⟨j5, j6⟩ := (Y3 _).1 j3
  exact ⟨(leastR (interR A [(leastR C + 1, 3652424)]), greatR (interR B [(0, greatR D - 1)])), exPs_f (m3 k0).1 (n3 j0).2 (by omega), leastR C, greatR D, ls_mk (by omega) lc1 hd1, by simp only [inBx, wayB]; omega⟩
 ·simp only [inBx, wayB] at hb
  obtain ⟨k0, k1, k2, k3, k4⟩ := z3 S ⟨pA, by omega⟩
  obtain ⟨k5, k6⟩ := (X3 _).1 k1
  obtain ⟨j0, j1, j2, j3, j4⟩ := y2 T ⟨pB, (by rw [show T = T' by omega]; exact qD)⟩
  obtain ⟨j5, j6⟩ := (Y2 _).1 j3
  have j7 := lc3 _ j6
  have j8 := g.bb _ j6
  exact ⟨(leastR (interR A [(leastR C + 1, 3652424)]), greatR (interR B D)), exPs_f (m3 k0).1 (n2 j0).2 (by omega), leastR C, greatR (interR B D), ls_mk j7 lc1 j6, by simp only [inBx, wayB]; omega⟩
 ·simp only [inBx, wayB] at hb
  obtain ⟨k0, k1, k2, k3, k4⟩ := z2 S ⟨pA, (by rw [show S = S' by omega]; exact qC)⟩
  obtain ⟨k5, k6⟩ := (X2 _).1 k1
  have k77 := h.ba _ k5
  obtain ⟨j0, j1, j2, j3, j4⟩ := y2 T ⟨pB, (by rw [show T = T' by omega]; exact qD)⟩
  obtain ⟨j5, j6⟩ := (Y2 _).1 j3
  have j7 := lc3 _ j6
  have j8 := g.bb _ j6
  exact ⟨(leastR (interR A C), greatR (interR B D)), exPs_f (m2 k0).1 (n2 j0).2 (by omega), leastR (interR A C), greatR (interR B D), ls_mk (by omega) k6 j6, by simp only [inBx, wayB]; omega⟩
 ·simp only [inBx, wayB] at hb
  obtain ⟨j0, j1, j2, j3, j4⟩ := y2 T ⟨pB, (by rw [show T = T' by omega]; exact qD)⟩
  obtain ⟨j5, j6⟩ := (Y2 _).1 j3
  have j7 := lc3 _ j6
  have j8 := g.bb _ j6
  exact ⟨(leastR A, greatR (interR B D)), exPs_f mA.1 (n2 j0).2 (by omega), S', greatR (interR B D), ls_mk (by omega) qC j6, by simp only [inBx, wayB]; omega⟩
 ·simp only [inBx, wayB] at hb
  exact ⟨(leastR A, greatR B), exPs_f mA.1 mB.2 (by omega), S', T', hq, by simp only [inBx, wayB]; omega⟩
 ·simp only [inBx, wayB] at hb
  obtain ⟨k0, k1, k2, k3, k4⟩ := z2 S ⟨pA, (by rw [show S = S' by omega]; exact qC)⟩
  obtain ⟨k5, k6⟩ := (X2 _).1 k1
  have k77 := h.ba _ k5
  exact ⟨(leastR (interR A C), greatR B), exPs_f (m2 k0).1 mB.2 (by omega), leastR (interR A C), T', ls_mk (by omega) k6 qD, by simp only [inBx, wayB]; omega⟩
 ·simp only [inBx, wayB] at hb
  obtain ⟨k0, k1, k2, k3, k4⟩ := z3 S ⟨pA, by omega⟩
  obtain ⟨k5, k6⟩ := (X3 _).1 k1
  exact ⟨(leastR (interR A [(leastR C + 1, 3652424)]), greatR B), exPs_f (m3 k0).1 mB.2 (by omega), leastR C, T', ls_mk (lc3 _ qD) lc1 qD, by simp only [inBx, wayB]; omega⟩
 ·simp only [inBx, wayB] at hb
  obtain ⟨k0, k1, k2, k3, k4⟩ := z4 S ⟨pA, (by rw [show S - 1 = T' by omega]; exact qD)⟩
  obtain ⟨k5, k6⟩ := (X4 _).1 k3
  have k7 := hb3 _ k5
  have k8 := h.ba _ k5
  have k88 := g.bb _ k6
  obtain ⟨m, u8, u9⟩ := g.dn _ k6
  have u10 := g.ba _ u8
  exact ⟨(greatR (interR A (nf (shR 1 1 D))), greatR B), exPs_f (m4 k0).2 mB.2 (by omega), m, greatR (interR A (nf (shR 1 1 D))) - 1, ls_mk u9 u8 k6, by simp only [inBx, wayB]; omega⟩
 ·simp only [inBx, wayB] at hb
  exact ⟨(greatR A, greatR B), exPs_f mA.2 mB.2 (by omega), S', T', hq, by simp only [inBx, wayB]; omega⟩
set_option maxHeartbeats 4000000 in
theorem ex_ft {A B C D : List R} (h : LsOkP false A B) (g : LsOkP true C D) {r : Nat} (hr : r ≤ 12) {S T S' T' : Int} (hp : lsP false A B S T) (hq : lsP true C D S' T') (hb : inBx (wayB r S T) S' T') :
  ∃ p ∈ exPs false A B C D, ∃ s' t', lsP true C D s' t' ∧ inBx (wayB r p.1 p.2) s' t' := by
 have eDC := (g.eq rfl).symm
 subst eDC
 have eST' := (ls_t hq).1
 obtain ⟨p1, pA, pB⟩ := ls_le h hp
 obtain ⟨q1, qC, qD⟩ := ls_le g hq
 obtain ⟨la1, la2, la3, lb1, lb2⟩ := h.lo
 obtain ⟨hb1, hb2, hb3, ha1, ha2⟩ := h.hi
 obtain ⟨lc1, lc2, lc3, ld1, ld2⟩ := g.lo
 obtain ⟨hd1, hd2, hd3, hc1, hc2⟩ := g.hi
 have bS := h.ba _ pA
 have bT := h.bb _ pB
 have bS' := g.ba _ qC
 have bT' := g.bb _ qD
 have bl1 := h.ba _ la1
 have bl2 := h.bb _ lb1
 have bg1 := h.bb _ hb1
 have bg2 := h.ba _ ha1
 have bl3 := g.ba _ lc1
 have bg3 := g.bb _ hd1
 have eAS := la2 _ pA
 have eBT := hb2 _ pB
 have eCS := lc2 _ qC
 have eDT := hd2 _ qD
 have eAB := la3 _ lb1
 have eAgB := hb3 _ ha1
 have eBl := lb2 _ pB
 have eAg := ha2 _ pA
 have eCD := lc3 _ hd1
 have rC := runs_bd g.sa g.ba
 have rD := runs_bd g.sb g.bb
 -- the sets of edges
 have X2 : ∀ n, memR (interR A C) n ↔ memR A n ∧ memR C n := fun n => interR_mem _ _ n
 have X3 : ∀ n, memR (interR A [(leastR C + 1, 3652424)]) n ↔ memR A n ∧ leastR C < n := fun n => by
  rw [interR_mem, memR_one]
  exact ⟨fun q => ⟨q.1, by omega⟩, fun q => ⟨q.1, by have := h.ba n q.1; omega⟩⟩
 have X4 : ∀ n, memR (interR A (nf (shR 1 1 C))) n ↔ memR A n ∧ memR C (n - 1) := fun n => by rw [interR_mem, shR_mem (by omega) rD]
 have Y2 : ∀ n, memR (interR B C) n ↔ memR B n ∧ memR C n := fun n => interR_mem _ _ n
 have Y3 : ∀ n, memR (interR B [(0, greatR C - 1)]) n ↔ memR B n ∧ n < greatR C := fun n => by
  rw [interR_mem, memR_one]
  exact ⟨fun q => ⟨q.1, by omega⟩, fun q => ⟨q.1, by have := h.bb n q.1; omega⟩⟩
 have Y4 : ∀ n, memR (interR B (nf (shR (-1) (-1) C))) n ↔ memR B n ∧ memR C (n + 1) := fun n => by rw [interR_mem, shR_mem (by omega) rC, show n - -1 = n + 1 by omega]
 have Z1 : ∀ n, memR (interR (interR A C) (interR B C)) n ↔ (memR A n ∧ memR C n) ∧ (memR B n ∧ memR C n) := fun n => by simp only [interR_mem]
 have S1 := interR_sane (interR A C) (interR B C)
 have S2 := interR_sane A C
 have S3 := interR_sane A [(leastR C + 1, 3652424)]
 have S4 := interR_sane A (nf (shR 1 1 C))
 have E2 := interR_sane B C
 have E3 := interR_sane B [(0, greatR C - 1)]
 have E4 := interR_sane B (nf (shR (-1) (-1) C))
 have mA := st_mem (A := A) (B := B) (C := C) (D := C) (s := A) (by simp) h.na
 have mB := en_mem (A := A) (B := B) (C := C) (D := C) (s := B) (by simp) h.nb
 have m2 := fun h0 => st_mem (A := A) (B := B) (C := C) (D := C) (s := interR A C) (by simp) h0
 have m3 := fun h0 => st_mem (A := A) (B := B) (C := C) (D := C) (s := interR A [(leastR C + 1, 3652424)]) (by simp) h0
 have m4 := fun h0 => st_mem (A := A) (B := B) (C := C) (D := C) (s := interR A (nf (shR 1 1 C))) (by simp) h0
 have n2 := fun h0 => en_mem (A := A) (B := B) (C := C) (D := C) (s := interR B C) (by simp) h0
 have n3 := fun h0 => en_mem (A := A) (B := B) (C := C) (D := C) (s := interR B [(0, greatR C - 1)]) (by simp) h0
 have n4 := fun h0 => en_mem (A := A) (B := B) (C := C) (D := C) (s := interR B (nf (shR (-1) (-1) C))) (by simp) h0
 have m1 := fun h0 => s1_mem (A := A) (B := B) (C := C) (D := C) h0
 -- the least (greatest) number of a set that has n
 have z1 := fun n q => set_ends S1 ((Z1 n).2 q)
 have z2 := fun n q => set_ends S2 ((X2 n).2 q)
 have z3 := fun n q => set_ends S3 ((X3 n).2 q)
 have z4 := fun n q => set_ends S4 ((X4 n).2 q)
 have y2 := fun n q => set_ends E2 ((Y2 n).2 q)
 have y3 := fun n q => set_ends E3 ((Y3 n).2 q)
 have y4 := fun n q => set_ends E4 ((Y4 n).2 q)
 obtain rfl | rfl | rfl | rfl | rfl | rfl | rfl | rfl | rfl | rfl | rfl | rfl | rfl : r = 0 ∨ r = 1 ∨ r = 2 ∨ r = 3 ∨ r = 4 ∨ r = 5 ∨ r = 6 ∨ r = 7 ∨ r = 8 ∨ r = 9 ∨ r = 10 ∨ r = 11 ∨ r = 12 := by omega
 ·simp only [inBx, wayB] at hb
  exact ⟨(leastR A, leastR B), exPs_f mA.1 mB.1 (by omega), S', T', hq, by simp only [inBx, wayB]; omega⟩
 ·simp only [inBx, wayB] at hb
  obtain ⟨k0, k1, k2, k3, k4⟩ := y4 T ⟨pB, (by rw [show T + 1 = S' by omega]; exact qC)⟩
  obtain ⟨k5, k6⟩ := (Y4 _).1 k1
  have k7 := la3 _ k5
  exact ⟨(leastR A, leastR (interR B (nf (shR (-1) (-1) C)))), exPs_f mA.1 (n4 k0).1 (by omega), leastR (interR B (nf (shR (-1) (-1) C))) + 1, leastR (interR B (nf (shR (-1) (-1) C))) + 1, ls_mkt k6, by simp only [inBx, wayB]; omega⟩
 ·simp only [inBx, wayB] at hb
  exfalso
  omega
 ·simp only [inBx, wayB] at hb
  exfalso
  omega
 ·simp only [inBx, wayB] at hb
  exfalso
  omega
 ·simp only [inBx, wayB] at hb
  exfalso
  omega
 ·simp only [inBx, wayB] at hb
  obtain ⟨k0, k1, k2, k3, k4⟩ := z1 S ⟨⟨pA, (by rw [show S = S' by omega]; exact qC)⟩, (by rw [show S = T by omega]; exact pB), (by rw [show S = T' by omega]; exact qD)⟩
  obtain ⟨⟨k5, k6⟩, k7, k8⟩ := (Z1 _).1 k1
  exact ⟨(leastR (interR (interR A C) (interR B C)), leastR (interR (interR A C) (interR B C))), exPs_f (m1 k0).1 (m1 k0).2 (by omega), leastR (interR (interR A C) (interR B C)), leastR (interR (interR A C) (interR B C)), ls_mkt k6, by simp only [inBx, wayB]; omega⟩
 ·simp only [inBx, wayB] at hb
  obtain ⟨j0, j1, j2, j3, j4⟩ := y2 T ⟨pB, (by rw [show T = T' by omega]; exact qD)⟩
  obtain ⟨j5, j6⟩ := (Y2 _).1 j3
  have j7 := lc3 _ j6
  have j8 := g.bb _ j6
  exact ⟨(leastR A, greatR (interR B C)), exPs_f mA.1 (n2 j0).2 (by omega), greatR (interR B C), greatR (interR B C), ls_mkt j6, by simp only [inBx, wayB]; omega⟩
 ·simp only [inBx, wayB] at hb
  exact ⟨(leastR A, greatR B), exPs_f mA.1 mB.2 (by omega), S', T', hq, by simp only [inBx, wayB]; omega⟩
 ·simp only [inBx, wayB] at hb
  obtain ⟨k0, k1, k2, k3, k4⟩ := z2 S ⟨pA, (by rw [show S = S' by omega]; exact qC)⟩
  obtain ⟨k5, k6⟩ := (X2 _).1 k1
  have k77 := h.ba _ k5
  exact ⟨(leastR (interR A C), greatR B), exPs_f (m2 k0).1 mB.2 (by omega), leastR (interR A C), leastR (interR A C), ls_mkt k6, by simp only [inBx, wayB]; omega⟩
 ·simp only [inBx, wayB] at hb
  exfalso
  omega
 ·simp only [inBx, wayB] at hb
  obtain ⟨k0, k1, k2, k3, k4⟩ := z4 S ⟨pA, (by rw [show S - 1 = T' by omega]; exact qD)⟩
  obtain ⟨k5, k6⟩ := (X4 _).1 k3
  have k7 := hb3 _ k5
  have k8 := h.ba _ k5
  have k88 := g.bb _ k6
  exact ⟨(greatR (interR A (nf (shR 1 1 C))), greatR B), exPs_f (m4 k0).2 mB.2 (by omega), greatR (interR A (nf (shR 1 1 C))) - 1, greatR (interR A (nf (shR 1 1 C))) - 1, ls_mkt k6, by simp only [inBx, wayB]; omega⟩
 ·simp only [inBx, wayB] at hb
  exact ⟨(greatR A, greatR B), exPs_f mA.2 mB.2 (by omega), S', T', hq, by simp only [inBx, wayB]; omega⟩
set_option maxHeartbeats 4000000 in
theorem ex_tf {A B C D : List R} (h : LsOkP true A B) (g : LsOkP false C D) {r : Nat} (hr : r ≤ 12) {S T S' T' : Int} (hp : lsP true A B S T) (hq : lsP false C D S' T') (hb : inBx (wayB r S T) S' T') :
  ∃ p ∈ exPs true A B C D, ∃ s' t', lsP false C D s' t' ∧ inBx (wayB r p.1 p.2) s' t' := by
 have eBA := (h.eq rfl).symm
 subst eBA
 have eST := (ls_t hp).1
 obtain ⟨p1, pA, pB⟩ := ls_le h hp
 obtain ⟨q1, qC, qD⟩ := ls_le g hq
 obtain ⟨la1, la2, la3, lb1, lb2⟩ := h.lo
 obtain ⟨hb1, hb2, hb3, ha1, ha2⟩ := h.hi
 obtain ⟨lc1, lc2, lc3, ld1, ld2⟩ := g.lo
 obtain ⟨hd1, hd2, hd3, hc1, hc2⟩ := g.hi
 have bS := h.ba _ pA
 have bT := h.bb _ pB
 have bS' := g.ba _ qC
 have bT' := g.bb _ qD
 have bl1 := h.ba _ la1
 have bl2 := h.bb _ lb1
 have bg1 := h.bb _ hb1
 have bg2 := h.ba _ ha1
 have bl3 := g.ba _ lc1
 have bg3 := g.bb _ hd1
 have eAS := la2 _ pA
 have eBT := hb2 _ pB
 have eCS := lc2 _ qC
 have eDT := hd2 _ qD
 have eAB := la3 _ lb1
 have eAgB := hb3 _ ha1
 have eBl := lb2 _ pB
 have eAg := ha2 _ pA
 have eCD := lc3 _ hd1
 have rC := runs_bd g.sa g.ba
 have rD := runs_bd g.sb g.bb
 -- the sets of edges
 have X2 : ∀ n, memR (interR A C) n ↔ memR A n ∧ memR C n := fun n => interR_mem _ _ n
 have X3 : ∀ n, memR (interR A [(leastR C + 1, 3652424)]) n ↔ memR A n ∧ leastR C < n := fun n => by
  rw [interR_mem, memR_one]
  exact ⟨fun q => ⟨q.1, by omega⟩, fun q => ⟨q.1, by have := h.ba n q.1; omega⟩⟩
 have X4 : ∀ n, memR (interR A (nf (shR 1 1 D))) n ↔ memR A n ∧ memR D (n - 1) := fun n => by rw [interR_mem, shR_mem (by omega) rD]
 have Y2 : ∀ n, memR (interR A D) n ↔ memR A n ∧ memR D n := fun n => interR_mem _ _ n
 have Y3 : ∀ n, memR (interR A [(0, greatR D - 1)]) n ↔ memR A n ∧ n < greatR D := fun n => by
  rw [interR_mem, memR_one]
  exact ⟨fun q => ⟨q.1, by omega⟩, fun q => ⟨q.1, by have := h.bb n q.1; omega⟩⟩
 have Y4 : ∀ n, memR (interR A (nf (shR (-1) (-1) C))) n ↔ memR A n ∧ memR C (n + 1) := fun n => by rw [interR_mem, shR_mem (by omega) rC, show n - -1 = n + 1 by omega]
 have Z1 : ∀ n, memR (interR (interR A C) (interR A D)) n ↔ (memR A n ∧ memR C n) ∧ (memR A n ∧ memR D n) := fun n => by simp only [interR_mem]
 have S1 := interR_sane (interR A C) (interR A D)
 have S2 := interR_sane A C
 have S3 := interR_sane A [(leastR C + 1, 3652424)]
 have S4 := interR_sane A (nf (shR 1 1 D))
 have E2 := interR_sane A D
 have E3 := interR_sane A [(0, greatR D - 1)]
 have E4 := interR_sane A (nf (shR (-1) (-1) C))
 have mA := st_mem (A := A) (B := A) (C := C) (D := D) (s := A) (by simp) h.na
 have mB := en_mem (A := A) (B := A) (C := C) (D := D) (s := A) (by simp) h.nb
 have m2 := fun h0 => st_mem (A := A) (B := A) (C := C) (D := D) (s := interR A C) (by simp) h0
 have m3 := fun h0 => st_mem (A := A) (B := A) (C := C) (D := D) (s := interR A [(leastR C + 1, 3652424)]) (by simp) h0
 have m4 := fun h0 => st_mem (A := A) (B := A) (C := C) (D := D) (s := interR A (nf (shR 1 1 D))) (by simp) h0
 have n2 := fun h0 => en_mem (A := A) (B := A) (C := C) (D := D) (s := interR A D) (by simp) h0
 have n3 := fun h0 => en_mem (A := A) (B := A) (C := C) (D := D) (s := interR A [(0, greatR D - 1)]) (by simp) h0
 have n4 := fun h0 => en_mem (A := A) (B := A) (C := C) (D := D) (s := interR A (nf (shR (-1) (-1) C))) (by simp) h0
 have m1 := fun h0 => s1_mem (A := A) (B := A) (C := C) (D := D) h0
 -- the least (greatest) number of a set that has n
 have z1 := fun n q => set_ends S1 ((Z1 n).2 q)
 have z2 := fun n q => set_ends S2 ((X2 n).2 q)
 have z3 := fun n q => set_ends S3 ((X3 n).2 q)
 have z4 := fun n q => set_ends S4 ((X4 n).2 q)
 have y2 := fun n q => set_ends E2 ((Y2 n).2 q)
 have y3 := fun n q => set_ends E3 ((Y3 n).2 q)
 have y4 := fun n q => set_ends E4 ((Y4 n).2 q)
 obtain rfl | rfl | rfl | rfl | rfl | rfl | rfl | rfl | rfl | rfl | rfl | rfl | rfl : r = 0 ∨ r = 1 ∨ r = 2 ∨ r = 3 ∨ r = 4 ∨ r = 5 ∨ r = 6 ∨ r = 7 ∨ r = 8 ∨ r = 9 ∨ r = 10 ∨ r = 11 ∨ r = 12 := by omega
 ·simp only [inBx, wayB] at hb
  exact ⟨(leastR A, leastR A), exPs_t (.inl mA.1), S', T', hq, by simp only [inBx, wayB]; omega⟩
 ·simp only [inBx, wayB] at hb
  obtain ⟨k0, k1, k2, k3, k4⟩ := y4 T ⟨pB, (by rw [show T + 1 = S' by omega]; exact qC)⟩
  obtain ⟨k5, k6⟩ := (Y4 _).1 k1
  have k7 := la3 _ k5
  obtain ⟨m, u8, u9⟩ := g.up _ k6
  have u10 := g.bb _ u8
  exact ⟨(leastR (interR A (nf (shR (-1) (-1) C))), leastR (interR A (nf (shR (-1) (-1) C)))), exPs_t (.inr (n4 k0).1), leastR (interR A (nf (shR (-1) (-1) C))) + 1, m, ls_mk u9 k6 u8, by simp only [inBx, wayB]; omega⟩
 ·simp only [inBx, wayB] at hb
  exfalso
  omega
 ·simp only [inBx, wayB] at hb
  obtain ⟨k0, k1, k2, k3, k4⟩ := z2 S ⟨pA, (by rw [show S = S' by omega]; exact qC)⟩
  obtain ⟨k5, k6⟩ := (X2 _).1 k1
  have k77 := h.ba _ k5
  exact ⟨(leastR (interR A C), leastR (interR A C)), exPs_t (.inl (m2 k0).1), leastR (interR A C), greatR D, ls_mk (by omega) k6 hd1, by simp only [inBx, wayB]; omega⟩
 ·simp only [inBx, wayB] at hb
  obtain ⟨k0, k1, k2, k3, k4⟩ := z3 S ⟨pA, by omega⟩
  obtain ⟨k5, k6⟩ := (X3 _).1 k1
  exact ⟨(leastR (interR A [(leastR C + 1, 3652424)]), leastR (interR A [(leastR C + 1, 3652424)])), exPs_t (.inl (m3 k0).1), leastR C, greatR D, ls_mk (by omega) lc1 hd1, by simp only [inBx, wayB]; omega⟩
 ·simp only [inBx, wayB] at hb
  obtain ⟨j0, j1, j2, j3, j4⟩ := y2 T ⟨pB, (by rw [show T = T' by omega]; exact qD)⟩
  obtain ⟨j5, j6⟩ := (Y2 _).1 j3
  have j7 := lc3 _ j6
  have j8 := g.bb _ j6
  exact ⟨(greatR (interR A D), greatR (interR A D)), exPs_t (.inr (n2 j0).2), leastR C, greatR (interR A D), ls_mk j7 lc1 j6, by simp only [inBx, wayB]; omega⟩
 ·simp only [inBx, wayB] at hb
  obtain ⟨k0, k1, k2, k3, k4⟩ := z1 S ⟨⟨pA, (by rw [show S = S' by omega]; exact qC)⟩, (by rw [show S = T by omega]; exact pB), (by rw [show S = T' by omega]; exact qD)⟩
  obtain ⟨⟨k5, k6⟩, k7, k8⟩ := (Z1 _).1 k1
  exact ⟨(leastR (interR (interR A C) (interR A D)), leastR (interR (interR A C) (interR A D))), exPs_t (.inl (m1 k0).1), leastR (interR (interR A C) (interR A D)), leastR (interR (interR A C) (interR A D)), ls_mk (Int.le_refl _) k6 k8, by simp only [inBx, wayB]; omega⟩
 ·simp only [inBx, wayB] at hb
  exfalso
  omega
 ·simp only [inBx, wayB] at hb
  exfalso
  omega
 ·simp only [inBx, wayB] at hb
  exfalso
  omega
 ·simp only [inBx, wayB] at hb
  exfalso
  omega
 ·simp only [inBx, wayB] at hb
  obtain ⟨k0, k1, k2, k3, k4⟩ := z4 S ⟨pA, (by rw [show S - 1 = T' by omega]; exact qD)⟩
  obtain ⟨k5, k6⟩ := (X4 _).1 k3
  have k7 := hb3 _ k5
  have k8 := h.ba _ k5
  have k88 := g.bb _ k6
  obtain ⟨m, u8, u9⟩ := g.dn _ k6
  have u10 := g.ba _ u8
  exact ⟨(greatR (interR A (nf (shR 1 1 D))), greatR (interR A (nf (shR 1 1 D)))), exPs_t (.inl (m4 k0).2), m, greatR (interR A (nf (shR 1 1 D))) - 1, ls_mk u9 u8 k6, by simp only [inBx, wayB]; omega⟩
 ·simp only [inBx, wayB] at hb
  exact ⟨(greatR A, greatR A), exPs_t (.inl mA.2), S', T', hq, by simp only [inBx, wayB]; omega⟩
set_option maxHeartbeats 4000000 in
theorem ex_tt {A B C D : List R} (h : LsOkP true A B) (g : LsOkP true C D) {r : Nat} (hr : r ≤ 12) {S T S' T' : Int} (hp : lsP true A B S T) (hq : lsP true C D S' T') (hb : inBx (wayB r S T) S' T') :
  ∃ p ∈ exPs true A B C D, ∃ s' t', lsP true C D s' t' ∧ inBx (wayB r p.1 p.2) s' t' := by
 have eBA := (h.eq rfl).symm
 subst eBA
 have eST := (ls_t hp).1
 have eDC := (g.eq rfl).symm
 subst eDC
 have eST' := (ls_t hq).1
 obtain ⟨p1, pA, pB⟩ := ls_le h hp
 obtain ⟨q1, qC, qD⟩ := ls_le g hq
 obtain ⟨la1, la2, la3, lb1, lb2⟩ := h.lo
 obtain ⟨hb1, hb2, hb3, ha1, ha2⟩ := h.hi
 obtain ⟨lc1, lc2, lc3, ld1, ld2⟩ := g.lo
 obtain ⟨hd1, hd2, hd3, hc1, hc2⟩ := g.hi
 have bS := h.ba _ pA
 have bT := h.bb _ pB
 have bS' := g.ba _ qC
 have bT' := g.bb _ qD
 have bl1 := h.ba _ la1
 have bl2 := h.bb _ lb1
 have bg1 := h.bb _ hb1
 have bg2 := h.ba _ ha1
 have bl3 := g.ba _ lc1
 have bg3 := g.bb _ hd1
 have eAS := la2 _ pA
 have eBT := hb2 _ pB
 have eCS := lc2 _ qC
 have eDT := hd2 _ qD
 have eAB := la3 _ lb1
 have eAgB := hb3 _ ha1
 have eBl := lb2 _ pB
 have eAg := ha2 _ pA
 have eCD := lc3 _ hd1
 have rC := runs_bd g.sa g.ba
 have rD := runs_bd g.sb g.bb
 -- the sets of edges
 have X2 : ∀ n, memR (interR A C) n ↔ memR A n ∧ memR C n := fun n => interR_mem _ _ n
 have X3 : ∀ n, memR (interR A [(leastR C + 1, 3652424)]) n ↔ memR A n ∧ leastR C < n := fun n => by
  rw [interR_mem, memR_one]
  exact ⟨fun q => ⟨q.1, by omega⟩, fun q => ⟨q.1, by have := h.ba n q.1; omega⟩⟩
 have X4 : ∀ n, memR (interR A (nf (shR 1 1 C))) n ↔ memR A n ∧ memR C (n - 1) := fun n => by rw [interR_mem, shR_mem (by omega) rD]
 have Y2 : ∀ n, memR (interR A C) n ↔ memR A n ∧ memR C n := fun n => interR_mem _ _ n
 have Y3 : ∀ n, memR (interR A [(0, greatR C - 1)]) n ↔ memR A n ∧ n < greatR C := fun n => by
  rw [interR_mem, memR_one]
  exact ⟨fun q => ⟨q.1, by omega⟩, fun q => ⟨q.1, by have := h.bb n q.1; omega⟩⟩
 have Y4 : ∀ n, memR (interR A (nf (shR (-1) (-1) C))) n ↔ memR A n ∧ memR C (n + 1) := fun n => by rw [interR_mem, shR_mem (by omega) rC, show n - -1 = n + 1 by omega]
 have Z1 : ∀ n, memR (interR (interR A C) (interR A C)) n ↔ (memR A n ∧ memR C n) ∧ (memR A n ∧ memR C n) := fun n => by simp only [interR_mem]
 have S1 := interR_sane (interR A C) (interR A C)
 have S2 := interR_sane A C
 have S3 := interR_sane A [(leastR C + 1, 3652424)]
 have S4 := interR_sane A (nf (shR 1 1 C))
 have E2 := interR_sane A C
 have E3 := interR_sane A [(0, greatR C - 1)]
 have E4 := interR_sane A (nf (shR (-1) (-1) C))
 have mA := st_mem (A := A) (B := A) (C := C) (D := C) (s := A) (by simp) h.na
 have mB := en_mem (A := A) (B := A) (C := C) (D := C) (s := A) (by simp) h.nb
 have m2 := fun h0 => st_mem (A := A) (B := A) (C := C) (D := C) (s := interR A C) (by simp) h0
 have m3 := fun h0 => st_mem (A := A) (B := A) (C := C) (D := C) (s := interR A [(leastR C + 1, 3652424)]) (by simp) h0
 have m4 := fun h0 => st_mem (A := A) (B := A) (C := C) (D := C) (s := interR A (nf (shR 1 1 C))) (by simp) h0
 have n2 := fun h0 => en_mem (A := A) (B := A) (C := C) (D := C) (s := interR A C) (by simp) h0
 have n3 := fun h0 => en_mem (A := A) (B := A) (C := C) (D := C) (s := interR A [(0, greatR C - 1)]) (by simp) h0
 have n4 := fun h0 => en_mem (A := A) (B := A) (C := C) (D := C) (s := interR A (nf (shR (-1) (-1) C))) (by simp) h0
 have m1 := fun h0 => s1_mem (A := A) (B := A) (C := C) (D := C) h0
 -- the least (greatest) number of a set that has n
 have z1 := fun n q => set_ends S1 ((Z1 n).2 q)
 have z2 := fun n q => set_ends S2 ((X2 n).2 q)
 have z3 := fun n q => set_ends S3 ((X3 n).2 q)
 have z4 := fun n q => set_ends S4 ((X4 n).2 q)
 have y2 := fun n q => set_ends E2 ((Y2 n).2 q)
 have y3 := fun n q => set_ends E3 ((Y3 n).2 q)
 have y4 := fun n q => set_ends E4 ((Y4 n).2 q)
 obtain rfl | rfl | rfl | rfl | rfl | rfl | rfl | rfl | rfl | rfl | rfl | rfl | rfl : r = 0 ∨ r = 1 ∨ r = 2 ∨ r = 3 ∨ r = 4 ∨ r = 5 ∨ r = 6 ∨ r = 7 ∨ r = 8 ∨ r = 9 ∨ r = 10 ∨ r = 11 ∨ r = 12 := by omega
 ·simp only [inBx, wayB] at hb
  exact ⟨(leastR A, leastR A), exPs_t (.inl mA.1), S', T', hq, by simp only [inBx, wayB]; omega⟩
 ·simp only [inBx, wayB] at hb
  obtain ⟨k0, k1, k2, k3, k4⟩ := y4 T ⟨pB, (by rw [show T + 1 = S' by omega]; exact qC)⟩
  obtain ⟨k5, k6⟩ := (Y4 _).1 k1
  have k7 := la3 _ k5
  exact ⟨(leastR (interR A (nf (shR (-1) (-1) C))), leastR (interR A (nf (shR (-1) (-1) C)))), exPs_t (.inr (n4 k0).1), leastR (interR A (nf (shR (-1) (-1) C))) + 1, leastR (interR A (nf (shR (-1) (-1) C))) + 1, ls_mkt k6, by simp only [inBx, wayB]; omega⟩
 ·simp only [inBx, wayB] at hb
  exfalso
  omega
 ·simp only [inBx, wayB] at hb
  exfalso
  omega
 ·simp only [inBx, wayB] at hb
  exfalso
  omega
 ·simp only [inBx, wayB] at hb
  exfalso
  omega
 ·simp only [inBx, wayB] at hb
  obtain ⟨k0, k1, k2, k3, k4⟩ := z1 S ⟨⟨pA, (by rw [show S = S' by omega]; exact qC)⟩, (by rw [show S = T by omega]; exact pB), (by rw [show S = T' by omega]; exact qD)⟩
  obtain ⟨⟨k5, k6⟩, k7, k8⟩ := (Z1 _).1 k1
  exact ⟨(leastR (interR (interR A C) (interR A C)), leastR (interR (interR A C) (interR A C))), exPs_t (.inl (m1 k0).1), leastR (interR (interR A C) (interR A C)), leastR (interR (interR A C) (interR A C)), ls_mkt k6, by simp only [inBx, wayB]; omega⟩
 ·simp only [inBx, wayB] at hb
  exfalso
  omega
 ·simp only [inBx, wayB] at hb
  exfalso
  omega
 ·simp only [inBx, wayB] at hb
  exfalso
  omega
 ·simp only [inBx, wayB] at hb
  exfalso
  omega
 ·simp only [inBx, wayB] at hb
  obtain ⟨k0, k1, k2, k3, k4⟩ := z4 S ⟨pA, (by rw [show S - 1 = T' by omega]; exact qD)⟩
  obtain ⟨k5, k6⟩ := (X4 _).1 k3
  have k7 := hb3 _ k5
  have k8 := h.ba _ k5
  have k88 := g.bb _ k6
  exact ⟨(greatR (interR A (nf (shR 1 1 C))), greatR (interR A (nf (shR 1 1 C)))), exPs_t (.inl (m4 k0).2), greatR (interR A (nf (shR 1 1 C))) - 1, greatR (interR A (nf (shR 1 1 C))) - 1, ls_mkt k6, by simp only [inBx, wayB]; omega⟩
 ·simp only [inBx, wayB] at hb
  exact ⟨(greatR A, greatR A), exPs_t (.inl mA.2), S', T', hq, by simp only [inBx, wayB]; omega⟩
theorem ex_suff {d d' : Bool} {A B C D : List R} (h : LsOkP d A B) (g : LsOkP d' C D) {r : Nat} (hr : r ≤ 12) {S T S' T' : Int} (hp : lsP d A B S T) (hq : lsP d' C D S' T') (hb : inBx (wayB r S T) S' T') :
  ∃ p ∈ exPs d A B C D, ∃ s' t', lsP d' C D s' t' ∧ inBx (wayB r p.1 p.2) s' t' := by
 cases d <;> cases d'
 ·exact ex_ff h g hr hp hq hb
 ·exact ex_ft h g hr hp hq hb
 ·exact ex_tf h g hr hp hq hb
 ·exact ex_tt h g hr hp hq hb
theorem at_apart {v v' : Value} {H X : Nat} (h : ∀ j, v.ownBlock = some j → j ≠ X) (hX : X < H) (a : v'.ownBlock = v.ownBlock ∨ v'.ownBlock = some H) : ∀ j, v'.ownBlock = some j → j ≠ X := by
 intro j hj
 rcases a with a | a
 ·exact h j (by rw [← a]; exact hj)
 ·rw [a] at hj; cases hj; omega
theorem nums_in_len {s : List R} {j m : Nat} (h : j < s.length) (hm : m ≤ ((at_ s j).2 - (at_ s j).1 + 1).toNat) : (nums (s.take j) ++ upF (at_ s j).1 m).length ≤ (nums s).length := (nums_part s j m h hm).length_le
set_option maxHeartbeats 4000000 in
set_option maxRecDepth 100000 in
theorem numbers_any (v : Value) (s : List R) (w : World) (hv : RunsAt w v s) (hs : sane s) (hn : s.length ≤ 100000) (hc : (nums s).length ≤ 1000000) :
  Calls Tryz.prog 107 #[v] w fun e w' => ∃ v' : Value, e = .returned v' ∧ w'.ownsRow w.heap.size 3 1 v' (nums s).length (cellsZ (nums s)) ∧ Kp w w' := by
 obtain ⟨i0, hi, hz0, hz1, hz2⟩ := info_parts infoZ
 obtain ⟨ad, c, rfl⟩ := hv.slice
 have HV := Lib.hid hv
 have HO := Lib.hid (sane_ok hs)
 have NT := Lib.hid (fun k (h : k < s.length) => nums_take s k h)
 have NL := Lib.hid (fun k m (h : k < s.length) (hm : m ≤ ((at_ s k).2 - (at_ s k).1 + 1).toNat) => Nat.le_trans (nums_in_len h hm) hc)
 have NE := Lib.hid (show nums (s.take s.length) = nums s by rw [List.take_length])
 clear hv hs hc
 go_enter Tryz.func107, Tryz.ntmps107
 go_wp2
 go_loopw [3, 9] (fun u i wr => ∃ k : Nat, k ≤ s.length ∧ i = .int .i64 k ∧ Hid (wr.ownsRow w.heap.size 3 1 u (nums (s.take k)).length (cellsZ (nums (s.take k)))) ∧ Hid (Kp w wr)) (fun _ i _ => s.length - (intOf i).toNat)
 case atStart => exact ⟨0, Nat.zero_le _, rfl, Lib.hid (World.ownsRow_nil _ _ _ _), Lib.hid (Kp.refl _)⟩
 case round =>
  obtain ⟨k, hk, rfl, O, K1⟩ := hrel
  obtain ⟨wo, hwo⟩ : ∃ x, x = wr := ⟨_, rfl⟩
  subst hwo
  obtain ⟨oad, oc, rfl⟩ := own_sliceZ O.out
  by_cases hlt : k < s.length
  ·rcases HV.out.kp K1.out with ⟨_, _, _, e⟩ | ⟨b, off, cap, ev, hc, hm, hx⟩
   ·rw [e] at hlt; simp at hlt
   cases ev
   obtain ⟨d1, d2⟩ := hx k hlt
   have ok := HO.out _ (at_mem hlt)
   unfold okR at ok
   have nt := NT.out k hlt
   have nl := NL.out k
   obtain ⟨r, hr⟩ : ∃ r, at_ s k = r := ⟨_, rfl⟩
   rw [hr] at d1 d2 ok nt nl
   obtain ⟨lo, hi'⟩ := r
   simp only at d1 d2 ok nl
   have NTH := Lib.hid nt
   have NLH := Lib.hid (fun m => nl m hlt)
   have HLT := Lib.hid hlt
   obtain ⟨L, hL⟩ : ∃ z, nums (s.take k) = z := ⟨_, rfl⟩
   rw [hL] at O NTH NLH ⊢
   have z1 : (k : Int) < (s.length : Int) := by omega
   have z2 : (0 : Int) ≤ (k : Int) := by omega
   obtain ⟨ok1, ok2, ok3⟩ := ok
   have hmx : 0 ≤ hi' - lo + 1 := by omega
   have RN := Lib.hid (show runF (lo, hi') = upF lo (hi' - lo + 1).toNat from rfl)
   have OB := Lib.hid (fun j (hj : (Value.slice oad L.length oc).ownBlock = some j) => show j ≠ wo.heap.size by have := (O.out.lt j hj).2; omega)
   have bsz : b < wo.heap.size := World.block_lt_of_cell? _ _ d1
   have bsn : ¬ b = wo.heap.size := by omega
   have O1 := Lib.hid (own_kp O.out (Kp.alloc wo (.cells #[.int .i64 lo, .int .i64 hi'] 53)))
   have K2 := Lib.hid (K1.out.trans (Kp.alloc wo (.cells #[.int .i64 lo, .int .i64 hi'] 53)))
   obtain ⟨W1, hW⟩ : ∃ x, x = wo.alloc (.cells #[.int .i64 lo, .int .i64 hi'] 53) := ⟨_, rfl⟩
   have gB : W1.heap[wo.heap.size]? = some (.cells #[.int .i64 lo, .int .i64 hi'] 53 (0, 0)) := by rw [hW]; exact heap_at _ _ _ rfl
   rw [← hW] at O1 K2
   have c0 := (row2 gB).1
   have c1 := (row2 gB).2
   have LB : wo.heap.size < W1.heap.size := (Array.getElem?_eq_some_iff.1 gB).1
   have HW := Lib.hid hW
   clear hx hr hc hm nt nl hL hW gB O hlt
   go_upto_region 5 with fail
   rw [← HW.out]
   go_wp2
   go_loopw [3, 6] (fun u n ws => ∃ m : Nat, (m : Int) ≤ hi' - lo + 1 ∧ n = .int .i64 (lo + m) ∧ Hid (ws.ownsRow w.heap.size 3 1 u (L ++ upF lo m).length (cellsZ (L ++ upF lo m))) ∧ Hid (Kp w ws) ∧ Hid (∀ j, u.ownBlock = some j → j ≠ wo.heap.size) ∧ Hid (ws.cell? ⟨wo.heap.size, 0, none⟩ = some (.int .i64 lo) ∧ ws.cell? ⟨wo.heap.size, 1, none⟩ = some (.int .i64 hi') ∧ wo.heap.size < ws.heap.size)) (fun _ n _ => (hi' - intOf n + 1).toNat)
   case atStart => exact ⟨0, by omega, by go_num, Lib.hid (by simpa [upF] using O1.out), K2, OB, Lib.hid ⟨c0, c1, LB⟩⟩
   case round =>
    obtain ⟨m, hm, rfl, O3, K3, B3, C3⟩ := hrel
    obtain ⟨oad3, oc3, rfl⟩ := own_sliceZ O3.out
    obtain ⟨e0, e1, e2⟩ := C3.out
    clear c0 c1
    have nlm := NLH.out m (by omega)
    by_cases hle : lo + (m : Int) ≤ hi'
    ·have q1 : decide (lo + (m : Int) ≤ hi') = true := decide_eq_true hle
     have ns := Below.size K3.out
     have wn : IntKind.i64.wrap (lo + (m : Int) + 1) = lo + (m : Int) + 1 := by rw [IntKind.wrap_i64]; omega
     have UP := Lib.hid (upF_succ lo m)
     obtain ⟨q, hq⟩ : ∃ z, L ++ upF lo m = z := ⟨_, rfl⟩
     have UQ := Lib.hid (show L ++ upF lo (m + 1) = q ++ [lo + (m : Int)] by rw [UP.out, ← hq, List.append_assoc])
     rw [hq] at O3 nlm B3 ⊢
     clear hq UP
     go_wp2_with (at_builtin; refine wpList_app rfl (.tmp 21) (.tmp 23) 84 rfl w.heap.size 3 i0 (.int .i64 0) 1 8 Tryz.underlying84 hi hz0 hz1 hz2 rfl (by decide) _ _ _ rfl (own_kp O3.out (Kp.alloc _ _)) _ _ _ rfl (one_srcZ _ _ _) rfl (by intro u hu; simp at hu; subst hu; rfl) (by unfold maxLen; omega) (by omega) (by simp; omega) ?_; intro v1 w1 hown1 hgrow1 hat1)
     go_roundw
     case rel =>
      have hs1 : wo.heap.size < (wr.alloc (.cells #[.int .i64 (lo + (m : Int))] 3)).heap.size := by simp; omega
      exact ⟨m + 1, by omega, by go_num, Lib.hid (by rw [UQ.out]; exact own_snocZ hown1), Lib.hid (Kp.grown (K3.out.trans (Kp.alloc _ _)) hgrow1 (fun j hj => (O3.out.lt j hj).1)), Lib.hid (at_apart B3.out (by simp; omega) hat1),
       Lib.hid ⟨(grown_cell hgrow1 hs1 (fun j hj => B3.out j hj)).trans ((Below.cell (p := ⟨wo.heap.size, 0, none⟩) (Kp.alloc _ _) e2).trans e0), (grown_cell hgrow1 hs1 (fun j hj => B3.out j hj)).trans ((Below.cell (p := ⟨wo.heap.size, 1, none⟩) (Kp.alloc _ _) e2).trans e1), by have := hgrow1.size; simp at this; omega⟩⟩
     case measure => simp [intOf]; omega
    ·have q1 : decide (lo + (m : Int) ≤ hi') = false := decide_eq_false hle
     have em : m = (hi' - lo + 1).toNat := by omega
     have OO := O3.out
     rw [em, ← RN.out, ← NTH.out] at OO
     have OF := Lib.hid OO
     have len : (L ++ upF lo m).length = (nums (s.take (k + 1))).length := by rw [em, ← RN.out, NTH.out]
     rw [len]
     clear OO
     go_wp2
     go_roundw
     case rel => exact ⟨k + 1, by have := HLT.out; omega, by go_num, OF, K3⟩
     case measure => have := HLT.out; simp [intOf]; omega
  ·have q : decide ((k : Int) < s.length) = false := by simp; omega
   have ek : k = s.length := by omega
   subst ek
   rw [NE.out] at O ⊢
   go_wp2
   go_ret
   exact ⟨_, rfl, O.out, K1.out⟩
def OwnP (w : World) (base : Nat) (v : Value) (l : List R) : Prop := w.ownsRow base 36 2 v l.length (cellsR l)
theorem OwnP.runs {w : World} {base : Nat} {v : Value} {l : List R} (h : OwnP w base v l) : RunsAt w v l := runsAt_own h
theorem OwnP.slice {w : World} {base : Nat} {v : Value} {l : List R} (h : OwnP w base v l) : ∃ ad c, v = .slice ad l.length c := h.runs.slice
theorem sgl_take {l : List Int} {k : Nat} (h : k < l.length) : (l.take (k + 1)).map (fun x => (x, x)) = (l.take k).map (fun x => (x, x)) ++ [(l.getD k 0, l.getD k 0)] := by
 rw [List.take_succ_eq_append_getElem h, List.map_append]
 simp [List.getD, h]
def zipR (a b : List Int) : List R := a.zip b
theorem zip_take {a b : List Int} {k : Nat} (h : k < a.length) (h2 : k < b.length) : zipR (a.take (k + 1)) (b.take (k + 1)) = zipR (a.take k) (b.take k) ++ [(a.getD k 0, b.getD k 0)] := by
 unfold zipR
 rw [List.take_succ_eq_append_getElem h, List.take_succ_eq_append_getElem h2, List.zip_append (by simp; omega)]
 simp [List.getD, h, h2]
theorem zip_all : ∀ (l r : List Int), l.length ≤ r.length → zipR l (r.take l.length) = zipR l r
 | [], _, _ => rfl
 | x :: l, [], h => by simp at h
 | x :: l, y :: r, h => by
  have := zip_all l r (by simpa using h)
  unfold zipR at this ⊢
  rw [List.length_cons, List.take_succ_cons, List.zip_cons_cons, List.zip_cons_cons, this]
theorem zip_len (a b : List Int) (k : Nat) (h : k ≤ a.length) (h2 : k ≤ b.length) : (zipR (a.take k) (b.take k)).length = k := by
 unfold zipR; simp; omega
set_option maxHeartbeats 16000000 in
set_option maxRecDepth 100000 in
theorem singleDays_any (v : Value) (l : List Int) (w : World) (hv : IntsAt w v l) (hn : l.length ≤ 1000000) :
  Calls Tryz.prog 123 #[v] w fun e w' => ∃ v' : Value, e = .returned v' ∧ OwnP w' w.heap.size v' (l.map fun x => (x, x)) ∧ Kp w w' := by
 obtain ⟨i0, hi, hz0, hz1, hz2⟩ := info_parts infoPr
 obtain ⟨ad, c, rfl⟩ := hv.slice
 have HV := Lib.hid hv
 have NE := Lib.hid (show (l.take l.length).map (fun x => (x, x)) = l.map (fun x => (x, x)) by rw [List.take_length])
 have HN := Lib.hid hn
 have NT := Lib.hid (fun k (h : k < l.length) => sgl_take h)
 clear hv hn
 go_enter Tryz.func123, Tryz.ntmps123
 go_wp2
 go_loopw [3, 8] (fun u i wr => ∃ k : Nat, k ≤ l.length ∧ i = .int .i64 k ∧ Hid (OwnP wr w.heap.size u ((l.take k).map fun x => (x, x))) ∧ Hid (Kp w wr)) (fun _ i _ => l.length - (intOf i).toNat)
 case atStart => exact ⟨0, Nat.zero_le _, rfl, Lib.hid (World.ownsRow_nil _ _ _ _), Lib.hid (Kp.refl _)⟩
 case round =>
  obtain ⟨k, hk, rfl, O, K1⟩ := hrel
  obtain ⟨oad, oc, rfl⟩ := O.out.slice
  by_cases hlt : k < l.length
  ·have q1 : decide ((k : Int) < (l.length : Int)) = true := by simp; omega
   rcases HV.out.kp K1.out with ⟨_, _, _, e⟩ | ⟨b, off, cap, ev, hc, hm, hx⟩
   ·rw [e] at hlt; simp at hlt
   cases ev
   have d1 := hx k hlt
   have nt := NT.out k hlt
   have z2 : (0 : Int) ≤ (k : Int) := by omega
   have kb : k ≤ 1000000 := by have := HN.out; omega
   have hln : ((l.take k).map fun x => (x, x)).length ≤ 1000000 := by have := HN.out; simp; omega
   have NTH := Lib.hid nt
   have HLT := Lib.hid hlt
   have sz := K1.out.size
   obtain ⟨x, hx0⟩ : ∃ x, l.getD k 0 = x := ⟨_, rfl⟩
   rw [hx0] at d1 NTH
   obtain ⟨q, hq⟩ : ∃ z, (l.take k).map (fun x => (x, x)) = z := ⟨_, rfl⟩
   rw [hq] at O NTH hln ⊢
   clear hx nt hx0 hq hc hm
   go_wp2_with (at_builtin; refine wpList_app rfl (.tmp 12) (.tmp 16) 30 rfl w.heap.size 36 i0 (.agg #[.int .i64 0, .int .i64 0]) 2 16 Tryz.underlying30 hi hz0 hz1 hz2 rfl (by decide) _ _ _ rfl (own_kp O.out (Kp.alloc _ _)) _ _ _ rfl (one_src _ _ _ _) rfl (by intro z hz; simp at hz; first | (subst hz; rfl) | (rcases hz with hz | hz <;> subst hz <;> rfl)) (by unfold maxLen; omega) (by omega) (by simp; omega) ?_; intro v1 w1 hown1 hgrow1 hat1)
   go_roundw
   case rel => exact ⟨k + 1, by have := HLT.out; omega, by go_num, Lib.hid (by rw [NTH.out]; exact own_snoc hown1), Lib.hid (Kp.grown (K1.out.trans (Kp.alloc _ _)) hgrow1 (fun j hj => (O.out.lt j hj).1))⟩
   case measure => have := HLT.out; simp [intOf]; omega
  ·have q : decide ((k : Int) < l.length) = false := by simp; omega
   have ek : k = l.length := by omega
   subst ek
   rw [NE.out] at O ⊢
   go_wp2
   go_ret
   exact ⟨_, rfl, O.out, K1.out⟩
def inP (s : Int) (b : List Int) : List R := (b.filter fun t => decide (s ≤ t)).map fun t => (s, t)
def pairsL (a b : List Int) : List R := a.flatMap fun s => inP s b
theorem pairs_take {a : List Int} {k : Nat} (b : List Int) (h : k < a.length) : pairsL (a.take (k + 1)) b = pairsL (a.take k) b ++ inP (a.getD k 0) b := by
 unfold pairsL
 rw [List.take_succ_eq_append_getElem h, List.flatMap_append]
 simp [List.getD, h]
theorem in_take {b : List Int} {m : Nat} (s : Int) (h : m < b.length) : inP s (b.take (m + 1)) = inP s (b.take m) ++ (if decide (s ≤ b.getD m 0) = true then [(s, b.getD m 0)] else []) := by
 unfold inP
 rw [List.take_succ_eq_append_getElem h, List.filter_append, List.map_append]
 have e : b.getD m 0 = b[m] := by simp [List.getD, h]
 rw [e]
 congr 1
 by_cases q : s ≤ b[m] <;> simp [q]
theorem in_len (s : Int) (b : List Int) : (inP s b).length ≤ b.length := by
 unfold inP
 rw [List.length_map]
 exact List.length_filter_le _ _
theorem pairs_len : ∀ (a b : List Int), (pairsL a b).length ≤ a.length * b.length
 | [], _ => by simp [pairsL]
 | s :: a, b => by
  have := pairs_len a b
  have := in_len s b
  have e : (pairsL (s :: a) b).length = (inP s b).length + (pairsL a b).length := by unfold pairsL; rw [List.flatMap_cons, List.length_append]
  rw [e, List.length_cons, Nat.add_mul]
  omega
theorem pairs_bd {a b : List Int} (ha : a.length ≤ 1000) (hb : b.length ≤ 1000) (s : Int) (k m : Nat) : (pairsL (a.take k) b ++ inP s (b.take m)).length ≤ 1001000 := by
 have h1 := pairs_len (a.take k) b
 have h2 := in_len s (b.take m)
 have h3 : (a.take k).length * b.length ≤ 1000 * 1000 := Nat.mul_le_mul (by rw [List.length_take]; omega) hb
 rw [List.length_append]
 rw [List.length_take] at h2
 omega
set_option maxHeartbeats 16000000 in
set_option maxRecDepth 100000 in
theorem pairsOf_any (v u : Value) (l r : List Int) (w : World) (hv : IntsAt w v l) (hu : IntsAt w u r) (hn : l.length ≤ 1000) (hm : r.length ≤ 1000) :
  Calls Tryz.prog 124 #[v, u] w fun e w' => ∃ v' : Value, e = .returned v' ∧ OwnP w' w.heap.size v' (pairsL l r) ∧ Kp w w' := by
 obtain ⟨i0, hi, hz0, hz1, hz2⟩ := info_parts infoPr
 obtain ⟨ad, c, rfl⟩ := hv.slice
 obtain ⟨ad', c', rfl⟩ := hu.slice
 have HV := Lib.hid hv
 have HU := Lib.hid hu
 have NE := Lib.hid (show pairsL (l.take l.length) r = pairsL l r by rw [List.take_length])
 have ME := Lib.hid (fun s => show inP s (r.take r.length) = inP s r by rw [List.take_length])
 have HN := Lib.hid hn
 have HM := Lib.hid hm
 have BD := Lib.hid (fun s k m => pairs_bd hn hm s k m)
 have NT := Lib.hid (fun k (h : k < l.length) => pairs_take r h)
 have MT := Lib.hid (fun s k (h : k < r.length) => in_take s h)
 clear hv hn hu hm
 go_enter Tryz.func124, Tryz.ntmps124
 go_wp2
 go_loopw [5, 12] (fun u i wr => ∃ k : Nat, k ≤ l.length ∧ i = .int .i64 k ∧ Hid (OwnP wr w.heap.size u (pairsL (l.take k) r)) ∧ Hid (Kp w wr)) (fun _ i _ => l.length - (intOf i).toNat)
 case atStart => exact ⟨0, Nat.zero_le _, rfl, Lib.hid (World.ownsRow_nil _ _ _ _), Lib.hid (Kp.refl _)⟩
 case round =>
  obtain ⟨k, hk, rfl, O, K1⟩ := hrel
  obtain ⟨wo, hwo⟩ : ∃ x, x = wr := ⟨_, rfl⟩
  subst hwo
  obtain ⟨oad, oc, rfl⟩ := O.out.slice
  by_cases hlt : k < l.length
  ·have q1 : decide ((k : Int) < (l.length : Int)) = true := by simp; omega
   rcases HV.out.kp K1.out with ⟨_, _, _, e⟩ | ⟨b, off, cap, ev, hc, hm, hx⟩
   ·rw [e] at hlt; simp at hlt
   cases ev
   have d1 := hx k hlt
   have nt := NT.out k hlt
   have z2 : (0 : Int) ≤ (k : Int) := by omega
   have NTH := Lib.hid nt
   have HLT := Lib.hid hlt
   obtain ⟨s, hx0⟩ : ∃ x, l.getD k 0 = x := ⟨_, rfl⟩
   rw [hx0] at d1 NTH
   have bd := Lib.hid (fun m => BD.out s k m)
   have kb : k ≤ 1000 := by have := HN.out; omega
   obtain ⟨q, hq⟩ : ∃ z, pairsL (l.take k) r = z := ⟨_, rfl⟩
   rw [hq] at O NTH bd ⊢
   clear hx nt hx0 hq hc hm
   go_wp2
   go_loopw [5, 18] (fun u n ws => ∃ m : Nat, m ≤ r.length ∧ n = .int .i64 m ∧ Hid (OwnP ws w.heap.size u (q ++ inP s (r.take m))) ∧ Hid (Kp w ws)) (fun _ n _ => r.length - (intOf n).toNat)
   case atStart => exact ⟨0, Nat.zero_le _, rfl, Lib.hid (by simpa [inP] using O.out), K1⟩
   case round =>
    obtain ⟨m, hmm, rfl, O3, K3⟩ := hrel
    obtain ⟨oad3, oc3, rfl⟩ := O3.out.slice
    by_cases hle : m < r.length
    ·have q2 : decide ((m : Int) < (r.length : Int)) = true := by simp; omega
     rcases HU.out.kp K3.out with ⟨_, _, _, e⟩ | ⟨b2, off2, cap2, ev, hc, hm, hx⟩
     ·rw [e] at hle; simp at hle
     cases ev
     have d2 := hx m hle
     have nt := MT.out s m hle
     have z3 : (0 : Int) ≤ (m : Int) := by omega
     have NSH := Lib.hid nt
     have HLE := Lib.hid hle
     obtain ⟨t, hx0⟩ : ∃ x, r.getD m 0 = x := ⟨_, rfl⟩
     rw [hx0] at d2 NSH
     have hln := bd.out m
     have mb : m ≤ 1000 := by have := HM.out; omega
     have sz := K3.out.size
     obtain ⟨p, hp⟩ : ∃ z, q ++ inP s (r.take m) = z := ⟨_, rfl⟩
     have UQ := Lib.hid (show q ++ inP s (r.take (m + 1)) = p ++ (if decide (s ≤ t) = true then [(s, t)] else []) by rw [NSH.out, ← hp, List.append_assoc])
     rw [hp] at O3 hln ⊢
     clear hx nt hx0 hp hc hm NSH
     cases qd : decide (s ≤ t)
     ·go_wp2
      go_roundw
      case rel => exact ⟨m + 1, by have := HLE.out; omega, by go_num, Lib.hid (by rw [UQ.out, qd]; simpa using O3.out), K3⟩
      case measure => have := HLE.out; simp [intOf]; omega
     ·go_wp2_with (at_builtin; refine wpList_app rfl (.tmp 25) (.tmp 29) 30 rfl w.heap.size 36 i0 (.agg #[.int .i64 0, .int .i64 0]) 2 16 Tryz.underlying30 hi hz0 hz1 hz2 rfl (by decide) _ _ _ rfl (own_kp O3.out (Kp.alloc _ _)) _ _ _ rfl (one_src _ _ _ _) rfl (by intro z hz; simp at hz; first | (subst hz; rfl) | (rcases hz with hz | hz <;> subst hz <;> rfl)) (by unfold maxLen; omega) (by omega) (by simp; omega) ?_; intro v1 w1 hown1 hgrow1 hat1)
      go_roundw
      case rel => exact ⟨m + 1, by have := HLE.out; omega, by go_num, Lib.hid (by rw [UQ.out, qd, if_pos rfl]; exact own_snoc hown1), Lib.hid (Kp.grown (K3.out.trans (Kp.alloc _ _)) hgrow1 (fun j hj => (O3.out.lt j hj).1))⟩
      case measure => have := HLE.out; simp [intOf]; omega
    ·have q2 : decide ((m : Int) < r.length) = false := by simp; omega
     have em : m = r.length := by omega
     subst em
     rw [ME.out s, ← NTH.out] at O3 ⊢
     go_wp2
     go_roundw
     case rel => exact ⟨k + 1, by have := HLT.out; omega, by go_num, O3, K3⟩
     case measure => have := HLT.out; simp [intOf]; omega
  ·have q : decide ((k : Int) < l.length) = false := by simp; omega
   have ek : k = l.length := by omega
   subst ek
   rw [NE.out] at O ⊢
   go_wp2
   go_ret
   exact ⟨_, rfl, O.out, K1.out⟩
set_option maxHeartbeats 16000000 in
set_option maxRecDepth 100000 in
theorem rtogether_any (v u : Value) (s t : List R) (w : World) (hv : RunsAt w v s) (hu : RunsAt w u t) (hs : sane s) (ht : sane t) (hn : s.length ≤ 100000) (hm : t.length ≤ 100000) (hc : (nums s).length ≤ 1000000) (hd : (nums t).length ≤ 1000000) (hl : (nums s).length ≤ (nums t).length) :
  Calls Tryz.prog 60 #[v, u] w fun e w' => ∃ v' : Value, e = .returned v' ∧ OwnP w' w.heap.size v' (zipR (nums s) (nums t)) ∧ Kp w w' := by
 obtain ⟨i0, hi, hz0, hz1, hz2⟩ := info_parts infoPr
 have C1 := Lib.hid (numbers_any v s w hv hs hn hc)
 have C2 := Lib.hid (fun w1 (k : Kp w w1) => numbers_any u t w1 (hu.kp k) ht hm hd)
 clear hv hu hs ht hn hm
 obtain ⟨l, hl0⟩ : ∃ l, nums s = l := ⟨_, rfl⟩
 obtain ⟨r, hr0⟩ : ∃ r, nums t = r := ⟨_, rfl⟩
 rw [hl0] at C1 hc hl ⊢
 rw [hr0] at C2 hd hl ⊢
 have HL := Lib.hid hl
 have HC := Lib.hid hc
 have NE := Lib.hid (show zipR (l.take l.length) (r.take l.length) = zipR l r by rw [List.take_length]; exact zip_all l r hl)
 have ZT := Lib.hid (fun k (h : k < l.length) => zip_take h (show k < r.length by omega))
 have ZL := Lib.hid (fun k (h : k ≤ l.length) => zip_len l r k h (by omega))
 clear hl0 hr0 hl hc hd
 go_enter Tryz.func60, Tryz.ntmps60
 go_wp2_with fail
 refine (C1.out).mono ?_
 rintro e w1 ⟨v1, rfl, o1, k1⟩
 have O1 := Lib.hid (intsAt_ownZ o1)
 have K1 := Lib.hid k1
 obtain ⟨a1, b1, rfl⟩ := (intsAt_ownZ o1).slice
 clear o1 k1
 go_wp2_with fail
 refine (C2.out _ K1.out).mono ?_
 rintro e w2 ⟨v2, rfl, o2, k2⟩
 have O2 := Lib.hid (intsAt_ownZ o2)
 have K2 := Lib.hid k2
 obtain ⟨a2, b2, rfl⟩ := (intsAt_ownZ o2).slice
 clear o2 k2
 go_wp2
 go_loopw [5, 16] (fun u i wr => ∃ k : Nat, k ≤ l.length ∧ i = .int .i64 k ∧ Hid (OwnP wr w2.heap.size u (zipR (l.take k) (r.take k))) ∧ Hid (Kp w2 wr)) (fun _ i _ => l.length - (intOf i).toNat)
 case atStart => exact ⟨0, Nat.zero_le _, rfl, Lib.hid (World.ownsRow_nil _ _ _ _), Lib.hid (Kp.refl _)⟩
 case round =>
  obtain ⟨k, hk, rfl, O, K3⟩ := hrel
  obtain ⟨oad, oc, rfl⟩ := O.out.slice
  by_cases hlt : k < l.length
  ·have q1 : decide ((k : Int) < (l.length : Int)) = true := by simp; omega
   have hlt2 : k < r.length := by have := HL.out; omega
   rcases O1.out.kp (K2.out.trans K3.out) with ⟨_, _, _, e⟩ | ⟨b, off, cap, ev, hc, hm, hx⟩
   ·rw [e] at hlt; simp at hlt
   cases ev
   rcases O2.out.kp K3.out with ⟨_, _, _, e⟩ | ⟨b', off', cap', ev, hc', hm', hx'⟩
   ·rw [e] at hlt2; simp at hlt2
   cases ev
   have d1 := hx k hlt
   have d2 := hx' k hlt2
   have NTH := Lib.hid (ZT.out k hlt)
   have z2 : (0 : Int) ≤ (k : Int) := by omega
   have z3 : (k : Int) < (r.length : Int) := by omega
   have kb : k ≤ 1000000 := by have := HC.out; omega
   have hln : (zipR (l.take k) (r.take k)).length ≤ 1000000 := by have := ZL.out k hk; omega
   have HLT := Lib.hid hlt
   have K4 := Lib.hid ((K1.out.trans K2.out).trans K3.out)
   have sz := K3.out.size
   obtain ⟨x, hx0⟩ : ∃ x, l.getD k 0 = x := ⟨_, rfl⟩
   obtain ⟨y, hy0⟩ : ∃ y, r.getD k 0 = y := ⟨_, rfl⟩
   rw [hx0] at d1 NTH
   rw [hy0] at d2 NTH
   obtain ⟨q, hq⟩ : ∃ z, zipR (l.take k) (r.take k) = z := ⟨_, rfl⟩
   rw [hq] at O NTH hln ⊢
   clear hx hx' hx0 hy0 hq hc hm hc' hm' hlt2
   go_wp2_with (at_builtin; refine wpList_app rfl (.tmp 21) (.tmp 28) 30 rfl w2.heap.size 36 i0 (.agg #[.int .i64 0, .int .i64 0]) 2 16 Tryz.underlying30 hi hz0 hz1 hz2 rfl (by decide) _ _ _ rfl (own_kp O.out (Kp.alloc _ _)) _ _ _ rfl (one_src _ _ _ _) rfl (by intro z hz; simp at hz; first | (subst hz; rfl) | (rcases hz with hz | hz <;> subst hz <;> rfl)) (by unfold maxLen; omega) (by omega) (by simp; omega) ?_; intro v1 w1 hown1 hgrow1 hat1)
   go_roundw
   case rel => exact ⟨k + 1, by have := HLT.out; omega, by go_num, Lib.hid (by rw [NTH.out]; exact own_snoc hown1), Lib.hid (Kp.grown (K3.out.trans (Kp.alloc _ _)) hgrow1 (fun j hj => (O.out.lt j hj).1))⟩
   case measure => have := HLT.out; simp [intOf]; omega
  ·have q : decide ((k : Int) < l.length) = false := by simp; omega
   have ek : k = l.length := by omega
   subst ek
   rw [NE.out] at O ⊢
   go_wp2
   go_ret
   exact ⟨_, rfl, own_mono O.out (K1.out.trans K2.out).size, (K1.out.trans K2.out).trans K3.out⟩
theorem rleast_any (v : Value) (s : List R) (w : World) (hv : RunsAt w v s) (h0 : 0 < s.length) :
  Calls Tryz.prog 120 #[v] w fun e w' => e = .returned (.int .i64 (leastR s)) ∧ w = w' := by
 rcases hv with ⟨_, _, _, e⟩ | ⟨b, off, cap, rfl, hc, hm, hx⟩
 ·rw [e] at h0; simp at h0
 obtain ⟨d1, d2⟩ := hx 0 h0
 have z : (0 : Int) < (s.length : Int) := by omega
 rw [show off + 0 * 2 = off by omega] at d1
 unfold leastR
 obtain ⟨lo, hlo⟩ : ∃ x, (at_ s 0).1 = x := ⟨_, rfl⟩
 rw [hlo] at d1 ⊢
 clear hx d2
 go_enter Tryz.func120, Tryz.ntmps120
 go_wp2
 go_ret
 exact ⟨rfl, rfl⟩
theorem rgreat_any (v : Value) (s : List R) (w : World) (hv : RunsAt w v s) (h0 : 0 < s.length) (hl : s.length ≤ 4611686018427387904) :
  Calls Tryz.prog 122 #[v] w fun e w' => e = .returned (.int .i64 (greatR s)) ∧ w = w' := by
 rcases hv with ⟨_, _, _, e⟩ | ⟨b, off, cap, rfl, hc, hm, hx⟩
 ·rw [e] at h0; simp at h0
 obtain ⟨d1, d2⟩ := hx (s.length - 1) (by omega)
 have wi : IntKind.i64.wrap ((s.length : Int) - 1) = ((s.length - 1 : Nat) : Int) := by rw [IntKind.wrap_i64]; omega
 have z1 : (0 : Int) ≤ ((s.length - 1 : Nat) : Int) := by omega
 have z2 : ((s.length - 1 : Nat) : Int) < s.length := by omega
 unfold greatR
 obtain ⟨hi, hhi⟩ : ∃ x, (at_ s (s.length - 1)).2 = x := ⟨_, rfl⟩
 rw [hhi] at d2 ⊢
 clear hx d1
 go_enter Tryz.func122, Tryz.ntmps122
 go_wp2
 go_ret
 exact ⟨rfl, rfl⟩
def SsAt (w : World) (v : Value) (l : List (List R)) : Prop := ∃ b c, v = .slice (some ⟨b, 0, none⟩) l.length c ∧ ∀ i, i < l.length → ∃ u, w.cell? ⟨b, i, none⟩ = some u ∧ RunsAt w u (l.getD i [])
theorem SsAt.kp {w w' : World} {v : Value} {l : List (List R)} (h : SsAt w v l) (k : Kp w w') : SsAt w' v l := by
 obtain ⟨b, c, e, hx⟩ := h
 refine ⟨b, c, e, fun i hi => ?_⟩
 obtain ⟨u, d1, d2⟩ := hx i hi
 exact ⟨u, (k.cell (p := ⟨b, i, none⟩) (World.block_lt_of_cell? _ _ d1)).trans d1, d2.kp k⟩
theorem edg_take {l : List (List R)} {k : Nat} (h : k < l.length) : edgL (l.take (k + 1)) = edgL (l.take k) ++ (if (l.getD k []).length = 0 then [] else [leastR (l.getD k []), greatR (l.getD k [])]) := by
 unfold edgL
 rw [List.take_succ_eq_append_getElem h, List.flatMap_append]
 have e : l.getD k [] = l[k] := by simp [List.getD, h]
 rw [e]
 simp
theorem edg_len : ∀ (l : List (List R)), (edgL l).length ≤ 2 * l.length
 | [] => by simp [edgL]
 | s :: l => by
  have := edg_len l
  have e : (edgL (s :: l)).length = (if s.length = 0 then ([] : List Int) else [leastR s, greatR s]).length + (edgL l).length := by unfold edgL; rw [List.flatMap_cons, List.length_append]
  rw [e, List.length_cons]
  by_cases q : s.length = 0
  ·rw [if_pos q]; simp; omega
  ·rw [if_neg q]; simp; omega
set_option maxHeartbeats 16000000 in
set_option maxRecDepth 100000 in
theorem edges_any (v : Value) (l : List (List R)) (w : World) (hv : SsAt w v l) (hn : l.length ≤ 100) (hs : ∀ i, i < l.length → (l.getD i []).length ≤ 1000000) :
  Calls Tryz.prog 118 #[v] w fun e w' => ∃ v' : Value, e = .returned v' ∧ w'.ownsRow w.heap.size 3 1 v' (edgL l).length (cellsZ (edgL l)) ∧ Kp w w' := by
 obtain ⟨i0, hi, hz0, hz1, hz2⟩ := info_parts infoZ
 have HV := Lib.hid hv
 obtain ⟨b, c, rfl, _⟩ := hv
 have HS := Lib.hid hs
 have HN := Lib.hid hn
 have NE := Lib.hid (show edgL (l.take l.length) = edgL l by rw [List.take_length])
 have NT := Lib.hid (fun k (h : k < l.length) => edg_take h)
 have NL := Lib.hid (fun k => edg_len (l.take k))
 clear hs
 go_enter Tryz.func118, Tryz.ntmps118
 go_wp2
 go_loopw [3, 8] (fun u i wr => ∃ k : Nat, k ≤ l.length ∧ i = .int .i64 k ∧ Hid (wr.ownsRow w.heap.size 3 1 u (edgL (l.take k)).length (cellsZ (edgL (l.take k)))) ∧ Hid (Kp w wr)) (fun _ i _ => l.length - (intOf i).toNat)
 case atStart => exact ⟨0, Nat.zero_le _, rfl, Lib.hid (World.ownsRow_nil _ _ _ _), Lib.hid (Kp.refl _)⟩
 case round =>
  obtain ⟨k, hk, rfl, O, K1⟩ := hrel
  obtain ⟨oad, oc, rfl⟩ := own_sliceZ O.out
  have kb : k ≤ 100 := by have := HN.out; omega
  by_cases hlt : k < l.length
  ·have q1 : decide ((k : Int) < (l.length : Int)) = true := by simp; omega
   obtain ⟨b', c', ev, hx⟩ := HV.out.kp K1.out
   cases ev
   obtain ⟨u, d1, hu⟩ := hx k hlt
   have hln := NL.out k
   have NTH := Lib.hid (NT.out k hlt)
   have hsl := HS.out k hlt
   have HLT := Lib.hid hlt
   have sz := K1.out.size
   obtain ⟨s, hs0⟩ : ∃ s, l.getD k [] = s := ⟨_, rfl⟩
   rw [hs0] at hu hsl NTH
   obtain ⟨ad, cc, rfl⟩ := hu.slice
   obtain ⟨q, hq⟩ : ∃ z, edgL (l.take k) = z := ⟨_, rfl⟩
   rw [hq] at O NTH hln ⊢
   have hln2 : q.length ≤ 1000 := by rw [List.length_take] at hln; omega
   have z2 : (0 : Int) ≤ (k : Int) := by omega
   clear hx hs0 hq hln
   by_cases h0 : s.length = 0
   ·have g : decide ((s.length : Int) > 0) = false := decide_eq_false (by omega)
    have gn : decide (0 < s.length) = false := decide_eq_false (by omega)
    have gi : decide ((0 : Int) < s.length) = false := decide_eq_false (by omega)
    have e0 : edgL (l.take (k + 1)) = q := by rw [NTH.out, if_pos h0, List.append_nil]
    have E0 := Lib.hid e0
    clear hu NTH h0 e0
    go_wp2
    go_roundw
    case rel => exact ⟨k + 1, by have := HLT.out; omega, by go_num, Lib.hid (by rw [E0.out]; exact O.out), K1⟩
    case measure => have := HLT.out; simp [intOf]; omega
   ·have g : decide ((s.length : Int) > 0) = true := decide_eq_true (by omega)
    have gn : decide (0 < s.length) = true := decide_eq_true (by omega)
    have gi : decide ((0 : Int) < s.length) = true := decide_eq_true (by omega)
    have E0 := Lib.hid (show edgL (l.take (k + 1)) = q ++ [leastR s, greatR s] by rw [NTH.out, if_neg h0])
    have p0 : 0 < s.length := Nat.pos_of_ne_zero h0
    have p1 : s.length ≤ 4611686018427387904 := Nat.le_trans hsl (by omega)
    have C1 := Lib.hid (rleast_any _ s wr hu p0)
    have C2 := Lib.hid (rgreat_any _ s wr hu p0 p1)
    clear hu NTH h0
    obtain ⟨x, hx⟩ : ∃ x, leastR s = x := ⟨_, rfl⟩
    obtain ⟨y, hy⟩ : ∃ y, greatR s = y := ⟨_, rfl⟩
    rw [hx] at E0 C1
    rw [hy] at E0 C2
    clear hx hy p0 p1
    go_wp2_with (first
     | (go_at_call 120; refine (C1.out).mono ?_; rintro e w' ⟨rfl, rfl⟩)
     | (go_at_call 122; refine (C2.out).mono ?_; rintro e w' ⟨rfl, rfl⟩)
     | (at_builtin; refine wpList_app rfl (.tmp 15) (.tmp 20) 84 rfl w.heap.size 3 i0 (.int .i64 0) 1 8 Tryz.underlying84 hi hz0 hz1 hz2 rfl (by decide) _ _ _ rfl (own_kp O.out (Kp.alloc _ _)) _ _ _ rfl (two_srcZ _ _ _ _) rfl (by intro z hz; simp at hz; rcases hz with hz | hz <;> subst hz <;> rfl) (by unfold maxLen; omega) (by omega) (by simp; omega) ?_; intro v1 w1 hown1 hgrow1 hat1))
    go_roundw
    case rel => exact ⟨k + 1, by have := HLT.out; omega, by go_num, Lib.hid (by rw [E0.out]; exact own_snoc2Z hown1), Lib.hid (Kp.grown (K1.out.trans (Kp.alloc _ _)) hgrow1 (fun j hj => (O.out.lt j hj).1))⟩
    case measure => have := HLT.out; simp [intOf]; omega
  ·have q : decide ((k : Int) < l.length) = false := by simp; omega
   have ek : k = l.length := by omega
   subst ek
   rw [NE.out] at O ⊢
   go_wp2
   go_ret
   exact ⟨_, rfl, O.out, K1.out⟩
end Go.Proofs.YtamdjbpgkiekcaaGreatDoor
