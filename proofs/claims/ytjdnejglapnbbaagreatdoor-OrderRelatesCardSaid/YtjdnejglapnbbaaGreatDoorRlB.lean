import Derived.Test.YtjdnejglapnbbaaGreatDoorGSetA
set_option maxHeartbeats 2000000
namespace Go.Proofs.YtjdnejglapnbbaaGreatDoor
open Go.RowKit
set_option linter.unusedVariables false
set_option linter.unusedSimpArgs false
theorem rnclo_any (l : List R) (n : Int) (B0 B1 : Nat) (v : Value) (h : Nat) (w : World) (hh : h < l.length) (hl : (l.length : Int) ≤ 9223372036854775807) (hv : RunsAt w v l) (c0 : w.cell? ⟨B0, 0, none⟩ = some v) (c1 : w.cell? ⟨B1, 0, none⟩ = some (.int .i64 n)) :
  Calls Tryz.prog 312 #[.int .i64 h, .pointer (some ⟨B0, 0, none⟩), .pointer (some ⟨B1, 0, none⟩)] w fun e w' => e = .returned (.bool (fB l n h)) ∧ Kp w w' := by
 rcases hv with ⟨ad0, cp0, rfl, rfl⟩ | ⟨b, off, cap, rfl, hc, hm, hx⟩
 ·simp at hh
 obtain ⟨d1, d2⟩ := hx h hh
 have E := Lib.hid (show fB l n h = decide (n ≤ (at_ l h).2) by unfold fB; rw [show decide (l.length ≤ h) = false by simp; omega]; simp)
 have z1 : (0 : Int) ≤ (h : Int) := by omega
 have z2 : (h : Int) < l.length := by omega
 obtain ⟨y, ey⟩ : ∃ y, (at_ l h).2 = y := ⟨_, rfl⟩
 rw [ey] at d2 E
 clear hx ey d1 hc hm
 go_enter Tryz.func312, Tryz.ntmps312
 go_wp2_with fail
 go_quiet (fail)
 go_wp2
 go_ret
 exact ⟨ret_bool E.out.symm, Kp.drewN _ _⟩
theorem rnext_any (v : Value) (l : List R) (n : Int) (w : World) (hv0 : RunsAt w v l) (h : sane l) (hl : l.length ≤ 4611686018427387904) (nl : -9223372036854775808 ≤ n) (nh : n ≤ 9223372036854775807) :
  Calls Tryz.prog 310 #[v, .int .i64 n] w fun e w' => e = .returned (.tuple #[.int .i64 (nxt l n).1, .bool (nxt l n).2]) ∧ Kp w w' := by
 obtain ⟨ad', c', rfl⟩ := hv0.slice
 have MO := Lib.hid (fB_mono h n)
 have NX := Lib.hid (nxt_at l n)
 clear h
 have hmf : ∀ (fn : Fn) (first cap : Array Value) (w : World), (Instr.makeFunc fn first cap).run Tryz.prog w = .ok (.func fn first cap) w := fun _ _ _ _ => rfl
 obtain ⟨W2, hW⟩ : ∃ W2, W2 = (w.alloc (.cells #[.slice ad' l.length c'] 38)).alloc (.cells #[.int .i64 n] 3) := ⟨_, rfl⟩
 have KB : Below w.heap.size w W2 := by rw [hW]; exact (Kp.alloc _ _).trans (Kp.alloc _ _)
 have RA : RunsAt W2 (.slice ad' l.length c') l := hv0.kp KB
 have e0 : W2.cell? ⟨w.heap.size, 0, none⟩ = some (.slice ad' l.length c') := by rw [hW]; simp
 have e1 : W2.cell? ⟨w.heap.size + 1, 0, none⟩ = some (.int .i64 n) := by rw [hW]; simp
 have sz : w.heap.size + 1 < W2.heap.size := by rw [hW]; simp
 have S := Lib.hid (search_any 312 #[.pointer (some ⟨w.heap.size, 0, none⟩), .pointer (some ⟨w.heap.size + 1, 0, none⟩)] (fB l n) l.length W2 hl (enters_of Tryz.func312 (by kernel_rfl) rfl) MO.out
  (fun h w' hh k => rnclo_any l n w.heap.size (w.heap.size + 1) (.slice ad' l.length c') h w' hh (by omega) (RA.kp k) ((k.cell (p := ⟨w.heap.size, 0, none⟩) (by show w.heap.size < _; omega)).trans e0) ((k.cell (p := ⟨w.heap.size + 1, 0, none⟩) sz).trans e1)))
 have KS := Lib.hid (fun w' (k : Kp W2 w') => (show w'.cell? ⟨w.heap.size, 0, none⟩ = some (.slice ad' l.length c') ∧ w'.cell? ⟨w.heap.size + 1, 0, none⟩ = some (.int .i64 n) ∧ RunsAt w' (.slice ad' l.length c') l ∧ Below w.heap.size w w' from
  ⟨(k.cell (p := ⟨w.heap.size, 0, none⟩) (by show w.heap.size < _; omega)).trans e0, (k.cell (p := ⟨w.heap.size + 1, 0, none⟩) sz).trans e1, RA.kp k, KB.trans (Below.mono k (by omega))⟩))
 have HW := Lib.hid hW.symm
 clear hW RA KB hv0
 go_enter Tryz.func310, Tryz.ntmps310
 go_wp2_with fail
 rw [HW.out]
 refine (S.out).mono ?_
 rintro e w3 ⟨i, rfl, ⟨u1, u2, u3⟩, k3⟩
 obtain ⟨y0, y1, y2, y3⟩ := KS.out _ k3
 have NE := Lib.hid (NX.out i u1 (fun k hk => by
  have := u2 k hk
  unfold fB at this
  simp at this
  exact this.2) (fun hi => by
  have := u3 i (Nat.le_refl _) hi
  unfold fB at this
  simp at this
  omega))
 have Y3 := Lib.hid y3
 have Y2 := Lib.hid y2
 clear u2 u3 k3 y3 y2 e0 e1
 by_cases hi : i = l.length
 ·have N2 := Lib.hid (show nxt l n = (0, false) by rw [NE.out, if_pos hi])
  have g : ((i : Int) == (l.length : Int)) = true := by simp; omega
  clear NE hi
  go_wp2
  go_ret2
  refine ⟨?_, Y3.out⟩
  rw [N2.out]
  rfl
 ·have N2 := Lib.hid (show nxt l n = (max n (at_ l i).1, true) by rw [NE.out, if_neg hi])
  have g : ((i : Int) == (l.length : Int)) = false := by simp; omega
  have hi2 : i < l.length := by omega
  rcases Y2.out with ⟨_, _, _, e⟩ | ⟨b, off, cap, ev, hc, hm, hx⟩
  ·rw [e] at hi2; simp at hi2
  obtain ⟨d1, d2⟩ := hx i hi2
  cases ev
  obtain ⟨lo, elo⟩ : ∃ x, (at_ l i).1 = x := ⟨_, rfl⟩
  rw [elo] at d1 N2
  have z1 : (0 : Int) ≤ (i : Int) := by omega
  have z2 : (i : Int) < l.length := by omega
  clear NE hi elo d2 hx Y2
  go_wp2_with fail
  go_quiet (fail)
  go_wp2
  go_ret2
  refine ⟨?_, Y3.out.trans (Below.mono (Kp.drewN _ _) Y3.out.size)⟩
  rw [N2.out]
  rfl
theorem rpclo_any (l : List R) (n : Int) (B0 B1 : Nat) (v : Value) (h : Nat) (w : World) (hh : h < l.length) (hl : (l.length : Int) ≤ 9223372036854775807) (hv : RunsAt w v l) (c0 : w.cell? ⟨B0, 0, none⟩ = some v) (c1 : w.cell? ⟨B1, 0, none⟩ = some (.int .i64 n)) :
  Calls Tryz.prog 313 #[.int .i64 h, .pointer (some ⟨B0, 0, none⟩), .pointer (some ⟨B1, 0, none⟩)] w fun e w' => e = .returned (.bool (fP l n h)) ∧ Kp w w' := by
 rcases hv with ⟨ad0, cp0, rfl, rfl⟩ | ⟨b, off, cap, rfl, hc, hm, hx⟩
 ·simp at hh
 obtain ⟨d1, d2⟩ := hx h hh
 have E := Lib.hid (show fP l n h = decide (n < (at_ l h).1) by unfold fP; rw [show decide (l.length ≤ h) = false by simp; omega]; simp)
 have z1 : (0 : Int) ≤ (h : Int) := by omega
 have z2 : (h : Int) < l.length := by omega
 obtain ⟨y, ey⟩ : ∃ y, (at_ l h).1 = y := ⟨_, rfl⟩
 rw [ey] at d1 E
 clear hx ey d2 hc hm
 go_enter Tryz.func313, Tryz.ntmps313
 go_wp2_with fail
 go_quiet (fail)
 go_wp2
 go_ret
 exact ⟨ret_bool E.out.symm, Kp.drewN _ _⟩
theorem rprev_any (v : Value) (l : List R) (n : Int) (w : World) (hv0 : RunsAt w v l) (h : sane l) (hl : l.length ≤ 4611686018427387904) (nl : -9223372036854775808 ≤ n) (nh : n ≤ 9223372036854775807) :
  Calls Tryz.prog 311 #[v, .int .i64 n] w fun e w' => e = .returned (.tuple #[.int .i64 (prv l n).1, .bool (prv l n).2]) ∧ Kp w w' := by
 obtain ⟨ad', c', rfl⟩ := hv0.slice
 have MO := Lib.hid (fP_mono h n)
 have PX := Lib.hid (prv_at l n)
 clear h
 have hmf : ∀ (fn : Fn) (first cap : Array Value) (w : World), (Instr.makeFunc fn first cap).run Tryz.prog w = .ok (.func fn first cap) w := fun _ _ _ _ => rfl
 obtain ⟨W2, hW⟩ : ∃ W2, W2 = (w.alloc (.cells #[.slice ad' l.length c'] 38)).alloc (.cells #[.int .i64 n] 3) := ⟨_, rfl⟩
 have KB : Below w.heap.size w W2 := by rw [hW]; exact (Kp.alloc _ _).trans (Kp.alloc _ _)
 have RA : RunsAt W2 (.slice ad' l.length c') l := hv0.kp KB
 have e0 : W2.cell? ⟨w.heap.size, 0, none⟩ = some (.slice ad' l.length c') := by rw [hW]; simp
 have e1 : W2.cell? ⟨w.heap.size + 1, 0, none⟩ = some (.int .i64 n) := by rw [hW]; simp
 have sz : w.heap.size + 1 < W2.heap.size := by rw [hW]; simp
 have S := Lib.hid (search_any 313 #[.pointer (some ⟨w.heap.size, 0, none⟩), .pointer (some ⟨w.heap.size + 1, 0, none⟩)] (fP l n) l.length W2 hl (enters_of Tryz.func313 (by kernel_rfl) rfl) MO.out
  (fun h w' hh k => rpclo_any l n w.heap.size (w.heap.size + 1) (.slice ad' l.length c') h w' hh (by omega) (RA.kp k) ((k.cell (p := ⟨w.heap.size, 0, none⟩) (by show w.heap.size < _; omega)).trans e0) ((k.cell (p := ⟨w.heap.size + 1, 0, none⟩) sz).trans e1)))
 have KS := Lib.hid (fun w' (k : Kp W2 w') => (show w'.cell? ⟨w.heap.size, 0, none⟩ = some (.slice ad' l.length c') ∧ w'.cell? ⟨w.heap.size + 1, 0, none⟩ = some (.int .i64 n) ∧ RunsAt w' (.slice ad' l.length c') l ∧ Below w.heap.size w w' from
  ⟨(k.cell (p := ⟨w.heap.size, 0, none⟩) (by show w.heap.size < _; omega)).trans e0, (k.cell (p := ⟨w.heap.size + 1, 0, none⟩) sz).trans e1, RA.kp k, KB.trans (Below.mono k (by omega))⟩))
 have HW := Lib.hid hW.symm
 clear hW RA KB hv0
 go_enter Tryz.func311, Tryz.ntmps311
 go_wp2_with fail
 rw [HW.out]
 refine (S.out).mono ?_
 rintro e w3 ⟨i, rfl, ⟨u1, u2, u3⟩, k3⟩
 obtain ⟨y0, y1, y2, y3⟩ := KS.out _ k3
 have NE := Lib.hid (PX.out i u1 (fun k hk hk2 => by
  have := u3 k hk hk2
  unfold fP at this
  simp at this
  omega) (fun hi => by
  have := u2 (i - 1) (by omega)
  unfold fP at this
  simp at this
  exact this.2))
 have Y3 := Lib.hid y3
 have Y2 := Lib.hid y2
 clear u2 u3 k3 y3 y2 e0 e1
 by_cases hi : i = 0
 ·have N2 := Lib.hid (show prv l n = (0, false) by rw [NE.out, if_pos hi])
  have g : ((i : Int) == 0) = true := by simp; omega
  clear NE
  subst hi
  go_wp2
  go_ret2
  refine ⟨?_, Y3.out⟩
  rw [N2.out]
  rfl
 ·have N2 := Lib.hid (show prv l n = (min n (at_ l (i - 1)).2, true) by rw [NE.out, if_neg hi])
  have g : ((i : Int) == 0) = false := by simp; omega
  have g' : ¬ (i : Int) = 0 := by omega
  have hi2 : i - 1 < l.length := by omega
  rcases Y2.out with ⟨_, _, _, e⟩ | ⟨b, off, cap, ev, hc, hm, hx⟩
  ·rw [e] at hi2; simp at hi2
  obtain ⟨d1, d2⟩ := hx (i - 1) hi2
  cases ev
  obtain ⟨hi1, ehi⟩ : ∃ x, (at_ l (i - 1)).2 = x := ⟨_, rfl⟩
  rw [ehi] at d2 N2
  have wi1 : IntKind.i64.wrap ((i : Int) - 1) = ((i - 1 : Nat) : Int) := by rw [IntKind.wrap_i64]; omega
  have z1 : (0 : Int) ≤ ((i - 1 : Nat) : Int) := by omega
  have z2 : ((i - 1 : Nat) : Int) < l.length := by omega
  clear NE hi ehi d1 hx Y2
  go_wp2_with fail
  go_quiet (fail)
  go_wp2
  go_ret2
  refine ⟨?_, Y3.out.trans (Below.mono (Kp.drewN _ _) Y3.out.size)⟩
  rw [N2.out]
  rfl
end Go.Proofs.YtjdnejglapnbbaaGreatDoor
