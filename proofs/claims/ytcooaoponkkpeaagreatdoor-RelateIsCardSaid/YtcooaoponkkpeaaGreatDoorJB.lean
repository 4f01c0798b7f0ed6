import Derived.Test.YtcooaoponkkpeaaGreatDoorGBa
import Derived.Test.YtcooaoponkkpeaaGreatDoorGLeafA
import Derived.Deep.MidRow
import Derived.Deep.CutRange
import Derived.Test.YtcooaoponkkpeaaGreatDoorGSetA
import Derived.Test.YtcooaoponkkpeaaGreatDoorGSetC
set_option maxHeartbeats 16000000
set_option maxRecDepth 100000
namespace Go.Proofs.YtcooaoponkkpeaaGreatDoor
open Go.RowKit
set_option linter.unusedVariables false
set_option linter.unusedSimpArgs false
theorem bx_heap1 {w : World} {B : Nat} {t : TypeId} {c : Array Value} {fr : Nat × Nat} (hB : w.heap[B]? = some (.cells c t fr)) (o : Nat) (x : Value) : (w.setCell ⟨B, o, none⟩ x).heap[B]? = some (.cells (c.setIfInBounds o x) t fr) := by
 unfold World.setCell
 simp only
 rw [Array.getElem?_modify, if_pos rfl, hB]
 rfl
theorem bx_other1 {w : World} {B C : Nat} (h : C ≠ B) (o : Nat) (x : Value) : (w.setCell ⟨B, o, none⟩ x).heap[C]? = w.heap[C]? := by
 unfold World.setCell
 simp only
 rw [Array.getElem?_modify, if_neg (Ne.symm h)]
def bxA : Array Value → Nat → List Value → Array Value
 | a, _, [] => a
 | a, o, c :: cs => bxA (a.setIfInBounds o c) (o + 1) cs
theorem bx_heap {B : Nat} {t : TypeId} {fr : Nat × Nat} : ∀ (cs : List Value) (o : Nat) {w : World} {a : Array Value}, w.heap[B]? = some (.cells a t fr) → (w.setCells B o cs).heap[B]? = some (.cells (bxA a o cs) t fr)
 | [], _, _, _, h => h
 | c :: cs, o, w, a, h => bx_heap cs (o + 1) (bx_heap1 h o c)
theorem bx_other {B C : Nat} (h : C ≠ B) : ∀ (cs : List Value) (o : Nat) (w : World), (w.setCells B o cs).heap[C]? = w.heap[C]?
 | [], _, _ => rfl
 | c :: cs, o, w => (bx_other h cs (o + 1) _).trans (bx_other1 h o c)
theorem bx_kp {w0 : World} {g : Nat} (hg : w0.heap.size ≤ g) : ∀ (cs : List Value) (o : Nat) {w : World}, Kp w0 w → Kp w0 (w.setCells g o cs)
 | [], _, _, k => k
 | c :: cs, o, w, k => bx_kp hg cs (o + 1) (Below.setCell k (p := ⟨g, o, none⟩) hg c)
theorem bx_there {w : World} {B : Nat} {t : TypeId} {a : Array Value} (h : w.heap[B]? = some (.cells a t (0, 0))) (o n : Nat) (e : o + n ≤ a.size) : w.there B o n := fun j hj => by
 have hl : o + j < a.size := by omega
 refine ⟨?_, by simp [World.frozen?, h]⟩
 simp [World.cell?, h, hl]
theorem bx_store {P : Program} {W w : World} {ops : Array Oper} {o : Oper} {a : Act} {K : Act → World → Prop} {Q : Exit → Act → World → Prop} {E : Prop} (hgd : o.guard = none) (ty : TypeId) (x y : Operand) (ho : o.op = .store ty x y)
  (B : Nat) (cs : List Value) (zs : Array Value) (hx : a.eval x = .pointer (some ⟨B, 0, none⟩)) (hy : a.eval y = .agg cs.toArray) (hk : Kp W w) (hW : W.heap.size ≤ B) (hB : w.heap[B]? = some (.cells zs ty (0, 0)))
  (hl : cs.length ≤ zs.size) (hs : bxA zs 0 cs = cs.toArray) (hi : (P.info? ty).map (·.size) = some cs.length) (h1 : cs.toArray.all (·.oneCell') = true)
  (h : ∀ F, F = w.setCells B 0 cs → Kp W F → F.heap[B]? = some (.cells cs.toArray ty (0, 0)) → K (a.put o.dst undef) F) : if Region.wanted o (yielded ops a.tmps) = true then Oper.wp P o a w K Q else E := by
 rw [if_pos (by simp [Region.wanted, hgd])]
 have g := bx_heap cs 0 hB
 rw [hs] at g
 exact wp_store_mid ty x y ho B 0 cs.toArray hx hy (by simpa using bx_there hB 0 cs.length (by omega)) (by simpa using hi) h1 (h _ rfl (bx_kp hW cs 0 hk) g)
theorem row4 {W : World} {B : Nat} {a b c d : Value} {t : TypeId} {fr : Nat × Nat} (h : W.heap[B]? = some (.cells #[a, b, c, d] t fr)) : W.cell? ⟨B, 0, none⟩ = some a ∧ W.cell? ⟨B, 1, none⟩ = some b ∧ W.cell? ⟨B, 2, none⟩ = some c ∧ W.cell? ⟨B, 3, none⟩ = some d := by
 refine ⟨?_, ?_, ?_, ?_⟩ <;> simp [World.cell?, h]
theorem row2 {W : World} {B : Nat} {a b : Value} {t : TypeId} {fr : Nat × Nat} (h : W.heap[B]? = some (.cells #[a, b] t fr)) : W.cell? ⟨B, 0, none⟩ = some a ∧ W.cell? ⟨B, 1, none⟩ = some b := by
 refine ⟨?_, ?_⟩ <;> simp [World.cell?, h]
theorem row3 {W : World} {B : Nat} {a b c : Value} {t : TypeId} {fr : Nat × Nat} (h : W.heap[B]? = some (.cells #[a, b, c] t fr)) : W.cell? ⟨B, 0, none⟩ = some a ∧ W.cell? ⟨B, 1, none⟩ = some b ∧ W.cell? ⟨B, 2, none⟩ = some c := by
 refine ⟨?_, ?_, ?_⟩ <;> simp [World.cell?, h]
theorem row1 {W : World} {B : Nat} {a : Value} {t : TypeId} {fr : Nat × Nat} (h : W.heap[B]? = some (.cells #[a] t fr)) : W.cell? ⟨B, 0, none⟩ = some a := by
 simp [World.cell?, h]
theorem rnclo_any (l : List R) (n : Int) (B0 B1 : Nat) (v : Value) (h : Nat) (w : World) (hh : h < l.length) (hl : (l.length : Int) ≤ 9223372036854775807) (hv : RunsAt w v l) (c0 : w.cell? ⟨B0, 0, none⟩ = some v) (c1 : w.cell? ⟨B1, 0, none⟩ = some (.int .i64 n)) :
  Calls Tryz.prog 263 #[.int .i64 h, .pointer (some ⟨B0, 0, none⟩), .pointer (some ⟨B1, 0, none⟩)] w fun e w' => e = .returned (.bool (fB l n h)) ∧ Kp w w' := by
 rcases hv with ⟨ad0, cp0, rfl, rfl⟩ | ⟨b, off, cap, rfl, hc, hm, hx⟩
 ·simp at hh
 obtain ⟨d1, d2⟩ := hx h hh
 have E := Hd (show fB l n h = decide (n ≤ (at_ l h).2) by unfold fB; rw [show decide (l.length ≤ h) = false by simp; omega]; simp)
 have z1 : (0 : Int) ≤ (h : Int) := by omega
 have z2 : (h : Int) < l.length := by omega
 obtain ⟨y, ey⟩ : ∃ y, (at_ l h).2 = y := ⟨_, rfl⟩
 rw [ey] at d2 E
 clear hx ey d1 hc hm
 go_enter Tryz.func263, Tryz.ntmps263
 go_wp2_with fail
 go_quiet (fail)
 go_wp2
 go_ret
 exact ⟨ret_bool E.out.symm, Kp.drewN _ _⟩
theorem rnext_any (v : Value) (l : List R) (n : Int) (w : World) (hv0 : RunsAt w v l) (h : sane l) (hl : l.length ≤ 4611686018427387904) (nl : -9223372036854775808 ≤ n) (nh : n ≤ 9223372036854775807) :
  Calls Tryz.prog 261 #[v, .int .i64 n] w fun e w' => e = .returned (.tuple #[.int .i64 (nxt l n).1, .bool (nxt l n).2]) ∧ Kp w w' := by
 obtain ⟨ad', c', rfl⟩ := hv0.slice
 have MO := Hd (fB_mono h n)
 have NX := Hd (nxt_at l n)
 clear h
 have hmf : ∀ (fn : Fn) (first cap : Array Value) (w : World), (Instr.makeFunc fn first cap).run Tryz.prog w = .ok (.func fn first cap) w := fun _ _ _ _ => rfl
 obtain ⟨W2, hW⟩ : ∃ W2, W2 = (w.alloc (.cells #[.slice ad' l.length c'] 34)).alloc (.cells #[.int .i64 n] 3) := ⟨_, rfl⟩
 have KB : Below w.heap.size w W2 := by rw [hW]; exact (Kp.alloc _ _).trans (Kp.alloc _ _)
 have RA : RunsAt W2 (.slice ad' l.length c') l := hv0.kp KB
 have e0 : W2.cell? ⟨w.heap.size, 0, none⟩ = some (.slice ad' l.length c') := by rw [hW]; simp
 have e1 : W2.cell? ⟨w.heap.size + 1, 0, none⟩ = some (.int .i64 n) := by rw [hW]; simp
 have sz : w.heap.size + 1 < W2.heap.size := by rw [hW]; simp
 have S := Hd (search_any 263 #[.pointer (some ⟨w.heap.size, 0, none⟩), .pointer (some ⟨w.heap.size + 1, 0, none⟩)] (fB l n) l.length W2 hl (enters_of Tryz.func263 (by kernel_rfl) rfl) MO.out
  (fun h w' hh k => rnclo_any l n w.heap.size (w.heap.size + 1) (.slice ad' l.length c') h w' hh (by omega) (RA.kp k) ((k.cell (p := ⟨w.heap.size, 0, none⟩) (by show w.heap.size < _; omega)).trans e0) ((k.cell (p := ⟨w.heap.size + 1, 0, none⟩) sz).trans e1)))
 have KS := Hd (fun w' (k : Kp W2 w') => (show w'.cell? ⟨w.heap.size, 0, none⟩ = some (.slice ad' l.length c') ∧ w'.cell? ⟨w.heap.size + 1, 0, none⟩ = some (.int .i64 n) ∧ RunsAt w' (.slice ad' l.length c') l ∧ Below w.heap.size w w' from
  ⟨(k.cell (p := ⟨w.heap.size, 0, none⟩) (by show w.heap.size < _; omega)).trans e0, (k.cell (p := ⟨w.heap.size + 1, 0, none⟩) sz).trans e1, RA.kp k, KB.trans (Below.mono k (by omega))⟩))
 have HW := Hd hW.symm
 clear hW RA KB hv0
 go_enter Tryz.func261, Tryz.ntmps261
 go_wp2_with fail
 rw [HW.out]
 refine (S.out).mono ?_
 rintro e w3 ⟨i, rfl, ⟨u1, u2, u3⟩, k3⟩
 obtain ⟨y0, y1, y2, y3⟩ := KS.out _ k3
 have NE := Hd (NX.out i u1 (fun k hk => by
  have := u2 k hk
  unfold fB at this
  simp at this
  exact this.2) (fun hi => by
  have := u3 i (Nat.le_refl _) hi
  unfold fB at this
  simp at this
  omega))
 have Y3 := Hd y3
 have Y2 := Hd y2
 clear u2 u3 k3 y3 y2 e0 e1
 by_cases hi : i = l.length
 ·have N2 := Hd (show nxt l n = (0, false) by rw [NE.out, if_pos hi])
  have g : ((i : Int) == (l.length : Int)) = true := by simp; omega
  clear NE hi
  go_wp2
  go_ret2
  refine ⟨?_, Y3.out⟩
  rw [N2.out]
  rfl
 ·have N2 := Hd (show nxt l n = (max n (at_ l i).1, true) by rw [NE.out, if_neg hi])
  have g : ((i : Int) == (l.length : Int)) = false := by simp; omega
  have hi2 : i < l.length := by omega
  rcases Y2.out with ⟨_, _, _, e⟩ | ⟨b, off, cap, ev, hc, hm, hx⟩
  ·rw [e] at hi2; simp at hi2
  obtain ⟨d1, d2⟩ := hx i hi2
  cases ev
  obtain ⟨lo, elo⟩ : ∃ x, (at_ l i).1 = x := ⟨_, rfl⟩
  rw [elo] at d1 N2
  have z1 : (0 : Int) ≤ (i : Int) := by omega
  have z2 : (i : Int) < l.length := by omega
  clear NE hi elo d2 hx Y2
  go_wp2_with fail
  go_quiet (fail)
  go_wp2
  go_ret2
  refine ⟨?_, Y3.out.trans (Below.mono (Kp.drewN _ _) Y3.out.size)⟩
  rw [N2.out]
  rfl
theorem rpclo_any (l : List R) (n : Int) (B0 B1 : Nat) (v : Value) (h : Nat) (w : World) (hh : h < l.length) (hl : (l.length : Int) ≤ 9223372036854775807) (hv : RunsAt w v l) (c0 : w.cell? ⟨B0, 0, none⟩ = some v) (c1 : w.cell? ⟨B1, 0, none⟩ = some (.int .i64 n)) :
  Calls Tryz.prog 264 #[.int .i64 h, .pointer (some ⟨B0, 0, none⟩), .pointer (some ⟨B1, 0, none⟩)] w fun e w' => e = .returned (.bool (fP l n h)) ∧ Kp w w' := by
 rcases hv with ⟨ad0, cp0, rfl, rfl⟩ | ⟨b, off, cap, rfl, hc, hm, hx⟩
 ·simp at hh
 obtain ⟨d1, d2⟩ := hx h hh
 have E := Hd (show fP l n h = decide (n < (at_ l h).1) by unfold fP; rw [show decide (l.length ≤ h) = false by simp; omega]; simp)
 have z1 : (0 : Int) ≤ (h : Int) := by omega
 have z2 : (h : Int) < l.length := by omega
 obtain ⟨y, ey⟩ : ∃ y, (at_ l h).1 = y := ⟨_, rfl⟩
 rw [ey] at d1 E
 clear hx ey d2 hc hm
 go_enter Tryz.func264, Tryz.ntmps264
 go_wp2_with fail
 go_quiet (fail)
 go_wp2
 go_ret
 exact ⟨ret_bool E.out.symm, Kp.drewN _ _⟩
theorem rprev_any (v : Value) (l : List R) (n : Int) (w : World) (hv0 : RunsAt w v l) (h : sane l) (hl : l.length ≤ 4611686018427387904) (nl : -9223372036854775808 ≤ n) (nh : n ≤ 9223372036854775807) :
  Calls Tryz.prog 262 #[v, .int .i64 n] w fun e w' => e = .returned (.tuple #[.int .i64 (prv l n).1, .bool (prv l n).2]) ∧ Kp w w' := by
 obtain ⟨ad', c', rfl⟩ := hv0.slice
 have MO := Hd (fP_mono h n)
 have PX := Hd (prv_at l n)
 clear h
 have hmf : ∀ (fn : Fn) (first cap : Array Value) (w : World), (Instr.makeFunc fn first cap).run Tryz.prog w = .ok (.func fn first cap) w := fun _ _ _ _ => rfl
 obtain ⟨W2, hW⟩ : ∃ W2, W2 = (w.alloc (.cells #[.slice ad' l.length c'] 34)).alloc (.cells #[.int .i64 n] 3) := ⟨_, rfl⟩
 have KB : Below w.heap.size w W2 := by rw [hW]; exact (Kp.alloc _ _).trans (Kp.alloc _ _)
 have RA : RunsAt W2 (.slice ad' l.length c') l := hv0.kp KB
 have e0 : W2.cell? ⟨w.heap.size, 0, none⟩ = some (.slice ad' l.length c') := by rw [hW]; simp
 have e1 : W2.cell? ⟨w.heap.size + 1, 0, none⟩ = some (.int .i64 n) := by rw [hW]; simp
 have sz : w.heap.size + 1 < W2.heap.size := by rw [hW]; simp
 have S := Hd (search_any 264 #[.pointer (some ⟨w.heap.size, 0, none⟩), .pointer (some ⟨w.heap.size + 1, 0, none⟩)] (fP l n) l.length W2 hl (enters_of Tryz.func264 (by kernel_rfl) rfl) MO.out
  (fun h w' hh k => rpclo_any l n w.heap.size (w.heap.size + 1) (.slice ad' l.length c') h w' hh (by omega) (RA.kp k) ((k.cell (p := ⟨w.heap.size, 0, none⟩) (by show w.heap.size < _; omega)).trans e0) ((k.cell (p := ⟨w.heap.size + 1, 0, none⟩) sz).trans e1)))
 have KS := Hd (fun w' (k : Kp W2 w') => (show w'.cell? ⟨w.heap.size, 0, none⟩ = some (.slice ad' l.length c') ∧ w'.cell? ⟨w.heap.size + 1, 0, none⟩ = some (.int .i64 n) ∧ RunsAt w' (.slice ad' l.length c') l ∧ Below w.heap.size w w' from
  ⟨(k.cell (p := ⟨w.heap.size, 0, none⟩) (by show w.heap.size < _; omega)).trans e0, (k.cell (p := ⟨w.heap.size + 1, 0, none⟩) sz).trans e1, RA.kp k, KB.trans (Below.mono k (by omega))⟩))
 have HW := Hd hW.symm
 clear hW RA KB hv0
 go_enter Tryz.func262, Tryz.ntmps262
 go_wp2_with fail
 rw [HW.out]
 refine (S.out).mono ?_
 rintro e w3 ⟨i, rfl, ⟨u1, u2, u3⟩, k3⟩
 obtain ⟨y0, y1, y2, y3⟩ := KS.out _ k3
 have NE := Hd (PX.out i u1 (fun k hk hk2 => by
  have := u3 k hk hk2
  unfold fP at this
  simp at this
  omega) (fun hi => by
  have := u2 (i - 1) (by omega)
  unfold fP at this
  simp at this
  exact this.2))
 have Y3 := Hd y3
 have Y2 := Hd y2
 clear u2 u3 k3 y3 y2 e0 e1
 by_cases hi : i = 0
 ·have N2 := Hd (show prv l n = (0, false) by rw [NE.out, if_pos hi])
  have g : ((i : Int) == 0) = true := by simp; omega
  clear NE
  subst hi
  go_wp2
  go_ret2
  refine ⟨?_, Y3.out⟩
  rw [N2.out]
  rfl
 ·have N2 := Hd (show prv l n = (min n (at_ l (i - 1)).2, true) by rw [NE.out, if_neg hi])
  have g : ((i : Int) == 0) = false := by simp; omega
  have g' : ¬ (i : Int) = 0 := by omega
  have hi2 : i - 1 < l.length := by omega
  rcases Y2.out with ⟨_, _, _, e⟩ | ⟨b, off, cap, ev, hc, hm, hx⟩
  ·rw [e] at hi2; simp at hi2
  obtain ⟨d1, d2⟩ := hx (i - 1) hi2
  cases ev
  obtain ⟨hi1, ehi⟩ : ∃ x, (at_ l (i - 1)).2 = x := ⟨_, rfl⟩
  rw [ehi] at d2 N2
  have wi1 : IntKind.i64.wrap ((i : Int) - 1) = ((i - 1 : Nat) : Int) := by rw [IntKind.wrap_i64]; omega
  have z1 : (0 : Int) ≤ ((i - 1 : Nat) : Int) := by omega
  have z2 : ((i - 1 : Nat) : Int) < l.length := by omega
  clear NE hi ehi d1 hx Y2
  go_wp2_with fail
  go_quiet (fail)
  go_wp2
  go_ret2
  refine ⟨?_, Y3.out.trans (Below.mono (Kp.drewN _ _) Y3.out.size)⟩
  rw [N2.out]
  rfl
def inBx (b : Int × Int × Int × Int) (S T : Int) : Prop := b.1 ≤ S ∧ S ≤ b.2.1 ∧ b.2.2.1 ≤ T ∧ T ≤ b.2.2.2
def bxV (b : Int × Int × Int × Int) : Value := .agg #[.int .i64 b.1, .int .i64 b.2.1, .int .i64 b.2.2.1, .int .i64 b.2.2.2]
def i64x (x : Int) : Prop := -9223372036854775808 ≤ x ∧ x ≤ 9223372036854775807
def bxOk (b : Int × Int × Int × Int) : Prop := i64x b.1 ∧ i64x b.2.1 ∧ i64x b.2.2.1 ∧ i64x b.2.2.2
def wiD (A : List R) (b : Int × Int × Int × Int) : Bool := (nxt A (max b.1 b.2.2.1)).2 && decide ((nxt A (max b.1 b.2.2.1)).1 ≤ min b.2.1 b.2.2.2)
def wiG (A B : List R) (b : Int × Int × Int × Int) : Bool := (nxt A b.1).2 && ((prv B b.2.2.2).2 && (decide ((nxt A b.1).1 ≤ b.2.1) && (decide ((prv B b.2.2.2).1 ≥ b.2.2.1) && decide ((nxt A b.1).1 ≤ (prv B b.2.2.2).1))))
theorem wiD_iff {A : List R} (h : sane A) (b : Int × Int × Int × Int) : wiD A b = true ↔ ∃ x, memR A x ∧ inBx b x x := by
 obtain ⟨b0, b1, b2, b3⟩ := b
 unfold wiD inBx
 simp only
 rcases nxt_spec A (max b0 b2) h with ⟨e, g⟩ | ⟨a, e, g1, g2, g3⟩
 ·rw [e]
  simp only [Bool.false_and, Bool.false_eq_true, false_iff]
  rintro ⟨x, hx, h1, h2, h3, h4⟩
  have := g x hx
  omega
 ·rw [e]
  simp only [Bool.true_and, decide_eq_true_eq]
  constructor
  ·intro h2
   exact ⟨a, g2, by omega, by omega, by omega, by omega⟩
  ·rintro ⟨x, hx, h1, h2, h3, h4⟩
   have := g3 x hx (by omega)
   omega
theorem wiG_iff {A B : List R} (hA : sane A) (hB : sane B) (b : Int × Int × Int × Int) : wiG A B b = true ↔ ∃ S T, S ≤ T ∧ memR A S ∧ memR B T ∧ inBx b S T := by
 obtain ⟨b0, b1, b2, b3⟩ := b
 unfold wiG inBx
 simp only
 rcases nxt_spec A b0 hA with ⟨e, g⟩ | ⟨a, e, g1, g2, g3⟩
 ·rw [e]
  simp only [Bool.false_and, Bool.false_eq_true, false_iff]
  rintro ⟨S, T, _, hS, hT, h1, h2, h3, h4⟩
  have := g S hS
  omega
 ·rcases prv_spec B b3 hB with ⟨e', g'⟩ | ⟨c, e', k1, k2, k3⟩
  ·rw [e, e']
   simp only [Bool.false_and, Bool.true_and, Bool.false_eq_true, false_iff]
   rintro ⟨S, T, _, hS, hT, h1, h2, h3, h4⟩
   have := g' T hT
   omega
  ·rw [e, e']
   simp only [Bool.true_and, Bool.and_eq_true, decide_eq_true_eq]
   constructor
   ·rintro ⟨h1, h2, h3⟩
    exact ⟨a, c, h3, g2, k2, by omega, by omega, by omega, by omega⟩
   ·rintro ⟨S, T, hST, hS, hT, h1, h2, h3, h4⟩
    have := g3 S hS (by omega)
    have := k3 T hT (by omega)
    omega
def lsP (d : Bool) (A B : List R) (S T : Int) : Prop := if d = true then S = T ∧ memR A S else S ≤ T ∧ memR A S ∧ memR B T
def wiL (d : Bool) (A B : List R) (b : Int × Int × Int × Int) : Bool := if d = true then wiD A b else wiG A B b
theorem wiL_iff {d : Bool} {A B : List R} (hA : sane A) (hB : sane B) (b : Int × Int × Int × Int) : wiL d A B b = true ↔ ∃ S T, lsP d A B S T ∧ inBx b S T := by
 unfold wiL lsP
 cases d with
 | true =>
  simp only [if_true]
  rw [wiD_iff hA]
  constructor
  ·rintro ⟨x, h1, h2⟩; exact ⟨x, x, ⟨rfl, h1⟩, h2⟩
  ·rintro ⟨S, T, ⟨rfl, h1⟩, h2⟩; exact ⟨_, h1, h2⟩
 | false =>
  simp only [Bool.false_eq_true, if_false]
  rw [wiG_iff hA hB]
  constructor
  ·rintro ⟨S, T, a, b, c, d⟩; exact ⟨S, T, ⟨a, b, c⟩, d⟩
  ·rintro ⟨S, T, ⟨a, b, c⟩, d⟩; exact ⟨S, T, a, b, c, d⟩
def riseP (L : List R) : Prop := L.Pairwise fun a b => a.1 ≤ b.1 ∧ a.2 ≤ b.2
theorem riseP_at {L : List R} (h : riseP L) {i j : Nat} (hij : i ≤ j) (hj : j < L.length) : (at_ L i).1 ≤ (at_ L j).1 ∧ (at_ L i).2 ≤ (at_ L j).2 := by
 by_cases e : i = j
 ·subst e; exact ⟨Int.le_refl _, Int.le_refl _⟩
 ·have := List.pairwise_iff_getElem.1 h i j (by omega) hj (by omega)
  unfold at_
  simpa [List.getD, List.getElem?_eq_getElem hj, List.getElem?_eq_getElem (show i < L.length by omega)] using this
def fL (L : List R) (a b : Int) (k : Nat) : Bool := decide (L.length ≤ k) || (decide (a ≤ (at_ L k).1) && decide (b ≤ (at_ L k).2))
theorem fL_mono {L : List R} (h : riseP L) (a b : Int) : ∀ i j, i ≤ j → fL L a b i = true → fL L a b j = true := by
 intro i j hij hi
 unfold fL at hi ⊢
 simp only [Bool.or_eq_true, Bool.and_eq_true, decide_eq_true_eq] at hi ⊢
 by_cases c : L.length ≤ j
 ·exact .inl c
 ·right
  rcases hi with hi | hi
  ·omega
  ·have := riseP_at h hij (by omega)
   omega
def wiA (L : List R) (b : Int × Int × Int × Int) (i : Nat) : Bool := decide (i < L.length) && (decide ((at_ L i).1 ≤ b.2.1) && decide ((at_ L i).2 ≤ b.2.2.2))
theorem wiA_iff {L : List R} (h : riseP L) (b : Int × Int × Int × Int) {i : Nat} (c : Cut (fL L b.1 b.2.2.1) L.length i) : wiA L b i = true ↔ ∃ S T, (S, T) ∈ L ∧ inBx b S T := by
 obtain ⟨c1, c2, c3⟩ := c
 unfold wiA inBx
 simp only [Bool.and_eq_true, decide_eq_true_eq]
 constructor
 ·rintro ⟨h1, h2, h3⟩
  have := c3 i (Nat.le_refl _) h1
  unfold fL at this
  simp only [Bool.or_eq_true, Bool.and_eq_true, decide_eq_true_eq] at this
  rcases this with q | q
  ·omega
  ·exact ⟨_, _, (show ((at_ L i).1, (at_ L i).2) ∈ L from at_mem h1), q.1, h2, q.2, h3⟩
 ·rintro ⟨S, T, hm, h1, h2, h3, h4⟩
  obtain ⟨j, hj, e⟩ := List.mem_iff_getElem.1 hm
  have ej : at_ L j = (S, T) := by unfold at_; simp [List.getD, List.getElem?_eq_getElem hj, e]
  have hij : i ≤ j := by
   rcases Nat.lt_or_ge j i with q | q
   ·have := c2 j q
    unfold fL at this
    simp only [ej, Bool.or_eq_false_iff, Bool.and_eq_false_iff, decide_eq_false_iff_not] at this
    omega
   ·exact q
  have := riseP_at h hij hj
  rw [ej] at this
  simp only at this
  exact ⟨by omega, by omega, by omega⟩
theorem lwithin_d (va vb : Value) (A B : List R) (b0 b1 b2 b3 : Int) (w : World) (hA : RunsAt w va A) (hB : RunsAt w vb B) (sA : sane A) (sB : sane B) (lA : A.length ≤ 1000000) (lB : B.length ≤ 1000000) (hb : bxOk (b0, b1, b2, b3)) :
  Calls Tryz.prog 260 #[.agg #[.bool true, va, vb], bxV (b0, b1, b2, b3)] w fun e w' => e = .returned (.bool (wiD A (b0, b1, b2, b3))) ∧ Kp w w' := by
 obtain ⟨ada, ca, rfl⟩ := hA.slice
 obtain ⟨adb, cb, rfl⟩ := hB.slice
 obtain ⟨⟨p0, q0⟩, ⟨p1, q1⟩, ⟨p2, q2⟩, ⟨p3, q3⟩⟩ := hb
 simp only at p0 q0 p1 q1 p2 q2 p3 q3
 unfold bxV
 simp only
 obtain ⟨W0, hW⟩ : ∃ x, x = (w.alloc (.cells #[.bool true, .slice ada A.length ca, .slice adb B.length cb] 80)).alloc (.cells #[.int .i64 b0, .int .i64 b1, .int .i64 b2, .int .i64 b3] 132) := ⟨_, rfl⟩
 have k0 : Kp w W0 := by rw [hW]; exact (Kp.alloc _ _).trans (Kp.alloc _ _)
 have gA : W0.heap[w.heap.size]? = some (.cells #[.bool true, .slice ada A.length ca, .slice adb B.length cb] 80 (0, 0)) := by rw [hW]; exact heap_block (Kp.alloc _ _) (heap_at _ _ _ rfl)
 have gB : W0.heap[w.heap.size + 1]? = some (.cells #[.int .i64 b0, .int .i64 b1, .int .i64 b2, .int .i64 b3] 132 (0, 0)) := by rw [hW]; exact heap_at _ _ _ (by simp)
 have K0 := Hd k0
 have KS := Hd (fun w' (kq : Kp W0 w') => show (w'.heap[w.heap.size]? = some (.cells #[.bool true, .slice ada A.length ca, .slice adb B.length cb] 80 (0, 0))) ∧ w'.heap[w.heap.size + 1]? = some (.cells #[.int .i64 b0, .int .i64 b1, .int .i64 b2, .int .i64 b3] 132 (0, 0)) from ⟨heap_block kq gA, heap_block kq gB⟩)
 have HW := Hd hW
 clear hW gA gB k0
 have NX := Hd (fun w1 (k : Kp W0 w1) => rnext_any (.slice ada A.length ca) A (max b0 b2) w1 (hA.kp (K0.out.trans k)) sA (by omega) (by omega) (by omega))
 have E := Hd (show wiD A (b0, b1, b2, b3) = ((nxt A (max b0 b2)).2 && decide ((nxt A (max b0 b2)).1 ≤ min b1 b3)) from rfl)
 obtain ⟨R, hR⟩ : ∃ R, nxt A (max b0 b2) = R := ⟨_, rfl⟩
 rw [hR] at NX E
 obtain ⟨x, ok⟩ := R
 simp only at NX E
 clear hA hB sA sB lA lB hR
 go_enter Tryz.func260, Tryz.ntmps260
 go_upto_region 1 with fail
 rw [← HW.out]
 obtain ⟨g0, g1⟩ := KS.out _ (Kp.refl _)
 obtain ⟨c0, c1, c2⟩ := row3 g0
 obtain ⟨d0, d1, d2, d3⟩ := row4 g1
 clear g0 g1
 go_wp2_with fail
 refine (NX.out _ (Kp.refl _)).mono ?_
 rintro e w1 ⟨rfl, k1⟩
 have K1 := Hd k1
 clear c0 c1 c2 d0 d1 d2 d3
 obtain ⟨g0, g1⟩ := KS.out _ k1
 obtain ⟨c0, c1, c2⟩ := row3 g0
 obtain ⟨d0, d1, d2, d3⟩ := row4 g1
 clear g0 g1
 clear k1
 cases ok with
 | false =>
  have E2 := Hd (show wiD A (b0, b1, b2, b3) = false from E.out)
  go_wp2
  go_ret
  exact ⟨ret_bool E2.out.symm, K0.out.trans K1.out⟩
 | true =>
  have E2 := Hd (show wiD A (b0, b1, b2, b3) = decide (x ≤ min b1 b3) from E.out)
  rcases Bool.eq_false_or_eq_true (decide (x ≤ min b1 b3)) with q | q
  ·have E3 := Hd (show wiD A (b0, b1, b2, b3) = true by rw [E2.out, q])
   go_wp2
   go_ret
   exact ⟨ret_bool E3.out.symm, K0.out.trans K1.out⟩
  ·have E3 := Hd (show wiD A (b0, b1, b2, b3) = false by rw [E2.out, q])
   go_wp2
   go_ret
   exact ⟨ret_bool E3.out.symm, K0.out.trans K1.out⟩
theorem lwithin_g (va vb : Value) (A B : List R) (b0 b1 b2 b3 : Int) (w : World) (hA : RunsAt w va A) (hB : RunsAt w vb B) (sA : sane A) (sB : sane B) (lA : A.length ≤ 1000000) (lB : B.length ≤ 1000000) (hb : bxOk (b0, b1, b2, b3)) :
  Calls Tryz.prog 260 #[.agg #[.bool false, va, vb], bxV (b0, b1, b2, b3)] w fun e w' => e = .returned (.bool (wiG A B (b0, b1, b2, b3))) ∧ Kp w w' := by
 obtain ⟨ada, ca, rfl⟩ := hA.slice
 obtain ⟨adb, cb, rfl⟩ := hB.slice
 obtain ⟨⟨p0, q0⟩, ⟨p1, q1⟩, ⟨p2, q2⟩, ⟨p3, q3⟩⟩ := hb
 simp only at p0 q0 p1 q1 p2 q2 p3 q3
 unfold bxV
 simp only
 obtain ⟨W0, hW⟩ : ∃ x, x = (w.alloc (.cells #[.bool false, .slice ada A.length ca, .slice adb B.length cb] 80)).alloc (.cells #[.int .i64 b0, .int .i64 b1, .int .i64 b2, .int .i64 b3] 132) := ⟨_, rfl⟩
 have k0 : Kp w W0 := by rw [hW]; exact (Kp.alloc _ _).trans (Kp.alloc _ _)
 have gA : W0.heap[w.heap.size]? = some (.cells #[.bool false, .slice ada A.length ca, .slice adb B.length cb] 80 (0, 0)) := by rw [hW]; exact heap_block (Kp.alloc _ _) (heap_at _ _ _ rfl)
 have gB : W0.heap[w.heap.size + 1]? = some (.cells #[.int .i64 b0, .int .i64 b1, .int .i64 b2, .int .i64 b3] 132 (0, 0)) := by rw [hW]; exact heap_at _ _ _ (by simp)
 have K0 := Hd k0
 have KS := Hd (fun w' (kq : Kp W0 w') => show (w'.heap[w.heap.size]? = some (.cells #[.bool false, .slice ada A.length ca, .slice adb B.length cb] 80 (0, 0))) ∧ w'.heap[w.heap.size + 1]? = some (.cells #[.int .i64 b0, .int .i64 b1, .int .i64 b2, .int .i64 b3] 132 (0, 0)) from ⟨heap_block kq gA, heap_block kq gB⟩)
 have HW := Hd hW
 clear hW gA gB k0
 have NX := Hd (fun w1 (k : Kp W0 w1) => rnext_any (.slice ada A.length ca) A b0 w1 (hA.kp (K0.out.trans k)) sA (by omega) (by omega) (by omega))
 have PX := Hd (fun w1 (k : Kp W0 w1) => rprev_any (.slice adb B.length cb) B b3 w1 (hB.kp (K0.out.trans k)) sB (by omega) (by omega) (by omega))
 have E := Hd (show wiG A B (b0, b1, b2, b3) = ((nxt A b0).2 && ((prv B b3).2 && (decide ((nxt A b0).1 ≤ b1) && (decide ((prv B b3).1 ≥ b2) && decide ((nxt A b0).1 ≤ (prv B b3).1))))) from rfl)
 obtain ⟨R, hR⟩ : ∃ R, nxt A b0 = R := ⟨_, rfl⟩
 rw [hR] at NX E
 obtain ⟨x, ok⟩ := R
 obtain ⟨R', hR'⟩ : ∃ R, prv B b3 = R := ⟨_, rfl⟩
 rw [hR'] at PX E
 obtain ⟨y, ok'⟩ := R'
 simp only at NX PX E
 clear hA hB sA sB lA lB hR hR'
 go_enter Tryz.func260, Tryz.ntmps260
 go_upto_region 1 with fail
 rw [← HW.out]
 obtain ⟨g0, g1⟩ := KS.out _ (Kp.refl _)
 obtain ⟨c0, c1, c2⟩ := row3 g0
 obtain ⟨d0, d1, d2, d3⟩ := row4 g1
 clear g0 g1
 go_wp2_with fail
 refine (NX.out _ (Kp.refl _)).mono ?_
 rintro e w1 ⟨rfl, k1⟩
 have K1 := Hd k1
 clear c0 c1 c2 d0 d1 d2 d3
 obtain ⟨g0, g1⟩ := KS.out _ k1
 obtain ⟨c0, c1, c2⟩ := row3 g0
 obtain ⟨d0, d1, d2, d3⟩ := row4 g1
 clear g0 g1
 clear k1
 go_wp2_with fail
 refine (PX.out _ K1.out).mono ?_
 rintro e w2 ⟨rfl, k2⟩
 have K2 := Hd k2
 clear c0 c1 c2 d0 d1 d2 d3
 obtain ⟨g0, g1⟩ := KS.out _ (K1.out.trans k2)
 obtain ⟨c0, c1, c2⟩ := row3 g0
 obtain ⟨d0, d1, d2, d3⟩ := row4 g1
 clear g0 g1
 clear k2
 cases ok with
 | false =>
  have E3 := Hd (show wiG A B (b0, b1, b2, b3) = false by rw [E.out]; rfl)
  go_wp2
  go_ret
  exact ⟨ret_bool E3.out.symm, K0.out.trans (K1.out.trans K2.out)⟩
 | true =>
  cases ok' with
  | false =>
   have E3 := Hd (show wiG A B (b0, b1, b2, b3) = false by rw [E.out]; rfl)
   go_wp2
   go_ret
   exact ⟨ret_bool E3.out.symm, K0.out.trans (K1.out.trans K2.out)⟩
  | true =>
   rcases Bool.eq_false_or_eq_true (decide (x ≤ b1)) with u1 | u1
   rotate_left
   ·have E3 := Hd (show wiG A B (b0, b1, b2, b3) = false by rw [E.out, u1]; rfl)
    go_wp2
    go_ret
    exact ⟨ret_bool E3.out.symm, K0.out.trans (K1.out.trans K2.out)⟩
   rcases Bool.eq_false_or_eq_true (decide (y ≥ b2)) with u2 | u2
   rotate_left
   ·have E3 := Hd (show wiG A B (b0, b1, b2, b3) = false by rw [E.out, u1, u2]; rfl)
    go_wp2
    go_ret
    exact ⟨ret_bool E3.out.symm, K0.out.trans (K1.out.trans K2.out)⟩
   rcases Bool.eq_false_or_eq_true (decide (x ≤ y)) with u3 | u3
   ·have E3 := Hd (show wiG A B (b0, b1, b2, b3) = true by rw [E.out, u1, u2, u3]; rfl)
    go_wp2
    go_ret
    exact ⟨ret_bool E3.out.symm, K0.out.trans (K1.out.trans K2.out)⟩
   ·have E3 := Hd (show wiG A B (b0, b1, b2, b3) = false by rw [E.out, u1, u2, u3]; rfl)
    go_wp2
    go_ret
    exact ⟨ret_bool E3.out.symm, K0.out.trans (K1.out.trans K2.out)⟩
theorem lwithin_any (d : Bool) (va vb : Value) (A B : List R) (b0 b1 b2 b3 : Int) (w : World) (hA : RunsAt w va A) (hB : RunsAt w vb B) (sA : sane A) (sB : sane B) (lA : A.length ≤ 1000000) (lB : B.length ≤ 1000000) (hb : bxOk (b0, b1, b2, b3)) :
  Calls Tryz.prog 260 #[.agg #[.bool d, va, vb], bxV (b0, b1, b2, b3)] w fun e w' => e = .returned (.bool (wiL d A B (b0, b1, b2, b3))) ∧ Kp w w' := by
 cases d with
 | true => exact lwithin_d va vb A B b0 b1 b2 b3 w hA hB sA sB lA lB hb
 | false => exact lwithin_g va vb A B b0 b1 b2 b3 w hA hB sA sB lA lB hb
theorem lclo_any (L : List R) (b0 b2 : Int) (B0 B1 : Nat) (v : Value) (h : Nat) (w : World) (hh : h < L.length) (hl : (L.length : Int) ≤ 9223372036854775807) (hv : RunsAt w v L) (c0 : w.cell? ⟨B0, 0, none⟩ = some v) (d0 : w.cell? ⟨B1, 0, none⟩ = some (.int .i64 b0)) (d2 : w.cell? ⟨B1, 2, none⟩ = some (.int .i64 b2)) :
  Calls Tryz.prog 266 #[.int .i64 h, .pointer (some ⟨B0, 0, none⟩), .pointer (some ⟨B1, 0, none⟩)] w fun e w' => e = .returned (.bool (fL L b0 b2 h)) ∧ Kp w w' := by
 rcases hv with ⟨ad0, cp0, rfl, rfl⟩ | ⟨b, off, cap, rfl, hc, hm, hx⟩
 ·simp at hh
 obtain ⟨x1, x2⟩ := hx h hh
 have E := Hd (show fL L b0 b2 h = (decide (b0 ≤ (at_ L h).1) && decide (b2 ≤ (at_ L h).2)) by unfold fL; rw [show decide (L.length ≤ h) = false by simp; omega]; simp)
 have z1 : (0 : Int) ≤ (h : Int) := by omega
 have z2 : (h : Int) < L.length := by omega
 obtain ⟨y, ey⟩ : ∃ y, (at_ L h).1 = y := ⟨_, rfl⟩
 obtain ⟨z, ez⟩ : ∃ y, (at_ L h).2 = y := ⟨_, rfl⟩
 rw [ey] at x1 E
 rw [ez] at x2 E
 clear hx ey ez hc hm
 rcases Bool.eq_false_or_eq_true (decide (b0 ≤ y)) with u1 | u1
 rotate_left
 ·have E2 := Hd (show fL L b0 b2 h = false by rw [E.out, u1]; rfl)
  have u1' : decide (y ≥ b0) = false := u1
  go_enter Tryz.func266, Tryz.ntmps266
  go_wp2_with fail
  go_quiet (fail)
  go_wp2
  go_ret
  exact ⟨ret_bool E2.out.symm, Kp.drewN _ _⟩
 have u1' : decide (y ≥ b0) = true := u1
 rcases Bool.eq_false_or_eq_true (decide (b2 ≤ z)) with u2 | u2
 ·have E2 := Hd (show fL L b0 b2 h = true by rw [E.out, u1, u2]; rfl)
  have u2' : decide (z ≥ b2) = true := u2
  go_enter Tryz.func266, Tryz.ntmps266
  go_wp2_with fail
  go_quiet (fail)
  go_wp2
  go_ret
  exact ⟨ret_bool E2.out.symm, Kp.drewN _ _⟩
 ·have E2 := Hd (show fL L b0 b2 h = false by rw [E.out, u1, u2]; rfl)
  have u2' : decide (z ≥ b2) = false := u2
  go_enter Tryz.func266, Tryz.ntmps266
  go_wp2_with fail
  go_quiet (fail)
  go_wp2
  go_ret
  exact ⟨ret_bool E2.out.symm, Kp.drewN _ _⟩
theorem dwithin_any (va : Value) (L : List R) (b0 b1 b2 b3 : Int) (w : World) (hA : RunsAt w va L) (rL : riseP L) (lA : L.length ≤ 1000000) (hb : bxOk (b0, b1, b2, b3)) :
  Calls Tryz.prog 265 #[va, bxV (b0, b1, b2, b3)] w fun e w' => ∃ b : Bool, e = .returned (.bool b) ∧ (b = true ↔ ∃ S T, (S, T) ∈ L ∧ inBx (b0, b1, b2, b3) S T) ∧ Kp w w' := by
 obtain ⟨ada, ca, rfl⟩ := hA.slice
 obtain ⟨⟨p0, q0⟩, ⟨p1, q1⟩, ⟨p2, q2⟩, ⟨p3, q3⟩⟩ := hb
 simp only at p0 q0 p1 q1 p2 q2 p3 q3
 unfold bxV
 simp only
 obtain ⟨W0, hW⟩ : ∃ x, x = (w.alloc (.cells #[.slice ada L.length ca] 87)).alloc (.cells #[.int .i64 b0, .int .i64 b1, .int .i64 b2, .int .i64 b3] 132) := ⟨_, rfl⟩
 have k0 : Kp w W0 := by rw [hW]; exact (Kp.alloc _ _).trans (Kp.alloc _ _)
 have gA : W0.heap[w.heap.size]? = some (.cells #[.slice ada L.length ca] 87 (0, 0)) := by rw [hW]; exact heap_block (Kp.alloc _ _) (heap_at _ _ _ rfl)
 have gB : W0.heap[w.heap.size + 1]? = some (.cells #[.int .i64 b0, .int .i64 b1, .int .i64 b2, .int .i64 b3] 132 (0, 0)) := by rw [hW]; exact heap_at _ _ _ (by simp)
 have K0 := Hd k0
 have KS := Hd (fun w' (kq : Kp W0 w') => show (w'.heap[w.heap.size]? = some (.cells #[.slice ada L.length ca] 87 (0, 0))) ∧ w'.heap[w.heap.size + 1]? = some (.cells #[.int .i64 b0, .int .i64 b1, .int .i64 b2, .int .i64 b3] 132 (0, 0)) from ⟨heap_block kq gA, heap_block kq gB⟩)
 have HW := Hd hW
 clear hW gA gB k0
 have hmf : ∀ (fn : Fn) (first cap : Array Value) (w : World), (Instr.makeFunc fn first cap).run Tryz.prog w = .ok (.func fn first cap) w := fun _ _ _ _ => rfl
 have S := Hd (search_any 266 #[.pointer (some ⟨w.heap.size, 0, none⟩), .pointer (some ⟨w.heap.size + 1, 0, none⟩)] (fL L b0 b2) L.length W0 (by omega) (enters_of Tryz.func266 (by kernel_rfl) rfl) (fL_mono rL b0 b2)
  (fun h w' hh k => lclo_any L b0 b2 w.heap.size (w.heap.size + 1) (.slice ada L.length ca) h w' hh (by omega) (hA.kp (K0.out.trans k)) (row1 (KS.out _ k).1) (row4 (KS.out _ k).2).1 (row4 (KS.out _ k).2).2.2.1))
 have WA := Hd (fun i c => wiA_iff rL (b0, b1, b2, b3) (i := i) c)
 have HV := Hd (fun w' (k : Kp W0 w') => hA.kp (K0.out.trans k))
 have hlen : (L.length : Int) ≤ 9223372036854775807 := by omega
 clear rL hA
 go_enter Tryz.func265, Tryz.ntmps265
 go_upto_region 1 with fail
 rw [← HW.out]
 obtain ⟨g0, g1⟩ := KS.out _ (Kp.refl _)
 have c0 := row1 g0
 obtain ⟨d0, d1, d2, d3⟩ := row4 g1
 clear g0 g1
 go_wp2_with fail
 refine (S.out).mono ?_
 rintro e w1 ⟨i, rfl, CU, k1⟩
 have K1 := Hd k1
 have W1 := Hd (WA.out i CU)
 clear c0 d0 d1 d2 d3
 obtain ⟨g0, g1⟩ := KS.out _ k1
 have c0 := row1 g0
 obtain ⟨d0, d1, d2, d3⟩ := row4 g1
 have RV := HV.out _ k1
 have ile : i ≤ L.length := CU.1
 clear g0 g1 k1 CU S WA
 have z1 : (0 : Int) ≤ (i : Int) := by omega
 by_cases hi : i < L.length
 rotate_left
 ·have E2 := Hd (show wiA L (b0, b1, b2, b3) i = false by unfold wiA; rw [decide_eq_false hi]; rfl)
  have q : decide ((i : Int) < (L.length : Int)) = false := dF
  have q' : decide (i < L.length) = false := decide_eq_false hi
  go_wp2_with fail
  go_quiet (fail)
  go_wp2
  go_ret
  exact ⟨_, ret_bool rfl, by rw [E2.out] at W1; exact W1.out, K0.out.trans (K1.out.trans (Kp.drewN _ _))⟩
 have z2 : (i : Int) < L.length := by omega
 have q : decide ((i : Int) < (L.length : Int)) = true := decide_eq_true z2
 have q' : decide (i < L.length) = true := decide_eq_true hi
 rcases RV with ⟨_, _, _, e⟩ | ⟨b, off, cap, ev, hc, hm, hx⟩
 ·rw [e] at hi; simp at hi
 obtain ⟨x1, x2⟩ := hx i hi
 cases ev
 have E := Hd (show wiA L (b0, b1, b2, b3) i = (decide ((at_ L i).1 ≤ b1) && decide ((at_ L i).2 ≤ b3)) by unfold wiA; rw [decide_eq_true hi]; rfl)
 obtain ⟨y, ey⟩ : ∃ y, (at_ L i).1 = y := ⟨_, rfl⟩
 obtain ⟨z, ez⟩ : ∃ y, (at_ L i).2 = y := ⟨_, rfl⟩
 rw [ey] at x1 E
 rw [ez] at x2 E
 clear hx ey ez hc hm
 rcases Bool.eq_false_or_eq_true (decide (y ≤ b1)) with u1 | u1
 rotate_left
 ·have E2 := Hd (show wiA L (b0, b1, b2, b3) i = false by rw [E.out, u1]; rfl)
  go_wp2_with fail
  go_quiet (fail)
  go_wp2
  go_ret
  exact ⟨_, ret_bool rfl, by rw [E2.out] at W1; exact W1.out, K0.out.trans (K1.out.trans (Kp.drewN _ _))⟩
 rcases Bool.eq_false_or_eq_true (decide (z ≤ b3)) with u2 | u2
 ·have E2 := Hd (show wiA L (b0, b1, b2, b3) i = true by rw [E.out, u1, u2]; rfl)
  go_wp2_with fail
  go_quiet (fail)
  go_wp2
  go_ret
  exact ⟨_, ret_bool rfl, by rw [E2.out] at W1; exact W1.out, K0.out.trans (K1.out.trans (Kp.drewN _ _))⟩
 ·have E2 := Hd (show wiA L (b0, b1, b2, b3) i = false by rw [E.out, u1, u2]; rfl)
  go_wp2_with fail
  go_quiet (fail)
  go_wp2
  go_ret
  exact ⟨_, ret_bool rfl, by rw [E2.out] at W1; exact W1.out, K0.out.trans (K1.out.trans (Kp.drewN _ _))⟩
theorem nodup_le : ∀ {l m : List Int}, l.Nodup → (∀ x ∈ l, x ∈ m) → l.length ≤ m.length
 | [], _, _, _ => Nat.zero_le _
 | x :: l, m, hd, hs => by
  have hx := hs x (by simp)
  have hn := List.nodup_cons.1 hd
  have := nodup_le (m := m.erase x) hn.2 (fun y hy => by
   have ne : y ≠ x := fun e => hn.1 (e ▸ hy)
   exact (List.mem_erase_of_ne ne).2 (hs y (by simp [hy])))
  rw [List.length_erase_of_mem hx] at this
  have := List.length_pos_of_mem hx
  rw [List.length_cons]
  omega
theorem ends_nodup : ∀ {s : List R}, sane s → (s.map (·.2)).Nodup
 | [], _ => List.nodup_nil
 | r :: t, h => by
  rw [List.map_cons, List.nodup_cons]
  refine ⟨fun hm => ?_, ends_nodup (sane_tail h)⟩
  obtain ⟨q, hq, e⟩ := List.mem_map.1 hm
  have o := sane_ok (sane_tail h) q hq
  unfold okR at o
  have := sane_beyond h q.2 ⟨q, hq, by omega, by omega, by omega, by omega⟩
  omega
theorem end_out : ∀ {s : List R}, sane s → ∀ r ∈ s, ¬ memR s (r.2 + 1)
 | [], _, _, hr => by cases hr
 | q :: t, h, r, hr => by
  intro hm
  rcases (memR_cons _ _ _).1 hm with g | g
  ·rcases List.mem_cons.1 hr with rfl | hr
   ·omega
   ·have o := sane_ok (sane_tail h) r hr
    unfold okR at o
    have := sane_beyond h r.2 ⟨r, hr, by omega, by omega, by omega, by omega⟩
    omega
  ·rcases List.mem_cons.1 hr with rfl | hr
   ·have := sane_beyond h _ g; omega
   ·exact end_out (sane_tail h) r hr g
theorem end_of {s : List R} (h : sane s) {e : Int} (hm : memR s e) (hn : ¬ memR s (e + 1)) : e ∈ s.map (·.2) := by
 obtain ⟨r, hr, a, b, c, d⟩ := hm
 have o := sane_ok h r hr
 unfold okR at o
 by_cases q : e = r.2
 ·exact List.mem_map.2 ⟨r, hr, q.symm⟩
 ·exact absurd ⟨r, hr, by omega, by omega, by omega, by omega⟩ hn
theorem interR_len {a b : List R} (ha : sane a) (hb : sane b) : (interR a b).length ≤ a.length + b.length := by
 have hs := interR_sane a b
 have := nodup_le (ends_nodup hs) (m := a.map (·.2) ++ b.map (·.2)) (fun e he => by
  obtain ⟨r, hr, rfl⟩ := List.mem_map.1 he
  have o := sane_ok hs r hr
  unfold okR at o
  have m := (interR_mem a b r.2).1 ⟨r, hr, by omega, by omega, by omega, by omega⟩
  have n := fun x => end_out hs r hr ((interR_mem a b _).2 x)
  by_cases q : memR a (r.2 + 1)
  ·exact List.mem_append.2 (.inr (end_of hb m.2 fun x => n ⟨q, x⟩))
  ·exact List.mem_append.2 (.inl (end_of ha m.1 q)))
 simpa using this
end Go.Proofs.YtcooaoponkkpeaaGreatDoor
