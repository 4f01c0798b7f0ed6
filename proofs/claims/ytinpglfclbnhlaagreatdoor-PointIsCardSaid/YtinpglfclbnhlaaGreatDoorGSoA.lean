/-
  Joined: SortA, SortB, SortC, SortE, SortF, SortD.
-/
import Derived.Test.YtinpglfclbnhlaaGreatDoorGBa
import Derived.Test.YtinpglfclbnhlaaGreatDoorChecked
import Derived.LoopTactic
import Derived.Shelf.Abstract
import Derived.Deep.QuietTactic
import Derived.BigQuiet
import Derived.Shelf.SlSortCmp.KitK
import Derived.Sort.AssemblyPlain
namespace Go.Proofs.YtinpglfclbnhlaaGreatDoor
open Go.RowKit Go.Sort Go.Shelf
set_option linter.unusedVariables false
set_option linter.unusedSimpArgs false
def encR (r : R) : List Value := [.int .i64 r.1, .int .i64 r.2]
def cfR (x y : R) : Int := if x.1 < y.1 then -1 else if x.1 = y.1 then 0 else 1
def ltR (x y : R) : Bool := decide (x.1 < y.1)
theorem cfR_lt (x y : R) : decide (cfR x y < 0) = ltR x y := by
  unfold cfR ltR
  by_cases h : x.1 < y.1
  · simp [h]
  · by_cases h2 : x.1 = y.1 <;> simp [h, h2]
/-- the function value that is called -/
def fvR : Value := .func (.func 79) #[.agg #[]] #[]
theorem nan_any (x : Int) (w : World) : Calls Tryz.prog 107 #[.int .i64 x] w fun e w' => e = .returned (.bool false) ∧ w = w' := by
  go_enter Tryz.func107, Tryz.ntmps107
  have h1 : (x == x) = true := by simp
  have h2 : (x != x) = false := by simp
  go_wp2
  go_ret
  exact ⟨rfl, rfl⟩
theorem compare_any (x y : Int) (w : World) : Calls Tryz.prog 89 #[.int .i64 x, .int .i64 y] w fun e w' => e = .returned (.int .i64 (if x < y then -1 else if x = y then 0 else 1)) ∧ w = w' := by
  have N1 := Lib.hid (fun (x : Int) w => nan_any x w)
  by_cases h : x < y
  · have e : (if x < y then (-1 : Int) else if x = y then 0 else 1) = -1 := by simp [h]
    rw [e]
    have d : decide (x < y) = true := decide_eq_true h
    go_enter Tryz.func89, Tryz.ntmps89
    go_wp2_with fail; refine ((N1.out x _)).mono ?_; rintro e w' ⟨rfl, rfl⟩
    go_wp2_with fail; refine ((N1.out y _)).mono ?_; rintro e w' ⟨rfl, rfl⟩
    go_wp2
    go_ret
    exact ⟨rfl, rfl⟩
  · have d : decide (x < y) = false := decide_eq_false h
    by_cases h2 : x = y
    · have e : (if x < y then (-1 : Int) else if x = y then 0 else 1) = 0 := by simp [h, h2]
      rw [e]
      have d2 : decide (y < x) = false := decide_eq_false (by omega)
      have d3 : decide (x > y) = false := decide_eq_false (by omega)
      clear e h2
      go_enter Tryz.func89, Tryz.ntmps89
      go_wp2_with fail; refine ((N1.out x _)).mono ?_; rintro e w' ⟨rfl, rfl⟩
      go_wp2_with fail; refine ((N1.out y _)).mono ?_; rintro e w' ⟨rfl, rfl⟩
      go_wp2
      go_ret
      exact ⟨rfl, rfl⟩
    · have e : (if x < y then (-1 : Int) else if x = y then 0 else 1) = 1 := by simp [h, h2]
      rw [e]
      have d2 : decide (y < x) = true := decide_eq_true (by omega)
      have d3 : decide (x > y) = true := decide_eq_true (by omega)
      go_enter Tryz.func89, Tryz.ntmps89
      go_wp2_with fail; refine ((N1.out x _)).mono ?_; rintro e w' ⟨rfl, rfl⟩
      go_wp2_with fail; refine ((N1.out y _)).mono ?_; rintro e w' ⟨rfl, rfl⟩
      go_wp2
      go_ret
      exact ⟨rfl, rfl⟩
theorem cmp_any (x y : R) (w : World) : Calls Tryz.prog 79 #[.agg #[], .agg #[.int .i64 x.1, .int .i64 x.2], .agg #[.int .i64 y.1, .int .i64 y.2]] w fun e w' => e = .returned (.int .i64 (cfR x y)) ∧ ∃ os, w' = grow w os := by
  have C : ∀ w, Calls Tryz.prog 89 #[.int .i64 x.1, .int .i64 y.1] w fun e w' => e = .returned (.int .i64 (cfR x y)) ∧ w = w' := fun w => compare_any x.1 y.1 w
  have C := Lib.hid C
  generalize cfR x y = c at C ⊢
  go_enter Tryz.func79, Tryz.ntmps79
  go_wp2_with fail
  refine (C.out _).mono ?_
  rintro e w' ⟨rfl, rfl⟩
  go_wp2
  go_ret
  exact ⟨rfl, _, by rw [alloc_eq_grow, alloc_eq_grow, alloc_eq_grow, grow_grow, grow_grow]⟩
/-- the row while it is sorted: what it holds now, else what it was, with draws and new blocks -/
def SW (w0 : World) (b off : Nat) (d : Array R) (W : World) : Prop := SWK encR 2 w0 b off d W
theorem lenR : ∀ x, (encR x).length = 2 := fun _ => rfl
theorem oneR : ∀ x, ∀ v ∈ encR x, v.oneCell' = true := by
  intro x v h
  simp [encR] at h
  rcases h with rfl | rfl <;> rfl
/-- the row's two cells of a run, and that they may be written -/
theorem SW.cells {w0 W : World} {b off : Nat} {d d0 : Array R} (h : SW w0 b off d W) (hb : b < w0.heap.size) (h0 : HoldsK encR 2 w0 b off d0) (hs : d.size = d0.size) (i : Nat) (hi : i < d.size) :
    W.cell? ⟨b, off + i * 2, none⟩ = some (.int .i64 d[i]!.1) ∧ W.cell? ⟨b, off + i * 2 + 1, none⟩ = some (.int .i64 d[i]!.2) ∧ W.frozen? ⟨b, off + i * 2, none⟩ = false ∧ W.frozen? ⟨b, off + i * 2 + 1, none⟩ = false := by
  have H : HoldsK encR 2 W b off d := SWK.holds h hb h0 hs
  have a1 := HoldsK.cells H lenR hi 0 _ rfl
  have a2 := HoldsK.cells H lenR hi 1 _ rfl
  have sz : (flatK encR 2 d).size = d.size * 2 := by simp [flatK]
  have f1 := (H (i * 2) (by rw [sz]; omega)).2
  have f2 := (H (i * 2 + 1) (by rw [sz]; omega)).2
  exact ⟨a1, a2, f1, f2⟩
theorem SW.grown {w0 W : World} {b off : Nat} {d : Array R} (h : SW w0 b off d W) (n : Nat) (os : Array Obj) : SW w0 b off d (grow (W.drewN n) os) := SWK.grown h n os
theorem SW.drew {w0 W : World} {b off : Nat} {d : Array R} (h : SW w0 b off d W) : SW w0 b off d W.drew := SWK.drew h
theorem SW.swapped {w0 W : World} {b off : Nat} {d : Array R} (h : SW w0 b off d W) (hb : b < w0.heap.size) (i j : Nat) (hi : i < d.size) (hj : j < d.size) :
    SW w0 b off (swp d i j) ((((W.setCell ⟨b, off + i * 2, none⟩ (.int .i64 d[j]!.1)).setCell ⟨b, off + i * 2 + 1, none⟩ (.int .i64 d[j]!.2)).setCell ⟨b, off + j * 2, none⟩ (.int .i64 d[i]!.1)).setCell ⟨b, off + j * 2 + 1, none⟩ (.int .i64 d[i]!.2)) :=
  SWK.swap h lenR hb i j hi hj
/-- what the row is, at the beginning -/
structure RowR (w0 : World) (b off : Nat) (n : Nat) : Prop where
  hb : b < w0.heap.size
  h0 : ∃ d0 : Array R, HoldsK encR 2 w0 b off d0 ∧ d0.size = n
  hn : n < 4611686018427387904
theorem RowR.cells {w0 W : World} {b off n : Nat} {d : Array R} (r : RowR w0 b off n) (h : SW w0 b off d W) (hs : d.size = n) (i : Nat) (hi : i < n) :
    W.cell? ⟨b, off + i * 2, none⟩ = some (.int .i64 d[i]!.1) ∧ W.cell? ⟨b, off + i * 2 + 1, none⟩ = some (.int .i64 d[i]!.2) ∧ W.frozen? ⟨b, off + i * 2, none⟩ = false ∧ W.frozen? ⟨b, off + i * 2 + 1, none⟩ = false := by
  obtain ⟨d0, h0, e⟩ := r.h0
  exact SW.cells h r.hb h0 (by rw [hs, e]) i (by rw [hs]; exact hi)
/-- the comparison, called in a region that draws -/
theorem cmp_grown (x y : R) (w : World) (n : Nat) (os : Array Obj) : Calls Tryz.prog 79 #[.agg #[], .agg #[.int .i64 x.1, .int .i64 x.2], .agg #[.int .i64 y.1, .int .i64 y.2]] (grow (w.drewN n) os) fun e w'' => e = .returned (.int .i64 (cfR x y)) ∧ ∃ p : GrownBy, w'' = grow (w.drewN p.n) p.os :=
  Calls.grown_of ((cmp_any x y _).mono fun e w' h => ⟨h.1, 0, h.2.elim fun os h2 => ⟨os, h2⟩⟩)
theorem mixed : Tryz.prog.follows .mixedOrders = true := by kernel_rfl
/-- a comparison of two of the row's, in a region that draws -/
theorem RowR.two {w0 W : World} {b off n : Nat} {d : Array R} (r : RowR w0 b off n) (h : SW w0 b off d W) (hs : d.size = n) (i j : Nat) (hi : i < n) (hj : j < n) :
    ∃ x1 x2 y1 y2 cf : Int, decide (cf < 0) = ltR d[i]! d[j]! ∧
      (∀ n' os, (grow (W.drewN n') os).cell? ⟨b, off + i * 2, none⟩ = some (.int .i64 x1)) ∧ (∀ n' os, (grow (W.drewN n') os).cell? ⟨b, off + i * 2 + 1, none⟩ = some (.int .i64 x2)) ∧
      (∀ n' os, (grow (W.drewN n') os).cell? ⟨b, off + j * 2, none⟩ = some (.int .i64 y1)) ∧ (∀ n' os, (grow (W.drewN n') os).cell? ⟨b, off + j * 2 + 1, none⟩ = some (.int .i64 y2)) ∧
      Hid (∀ n' os, Calls Tryz.prog 79 #[.agg #[], .agg #[.int .i64 x1, .int .i64 x2], .agg #[.int .i64 y1, .int .i64 y2]] (grow (W.drewN n') os) fun e w'' => e = .returned (.int .i64 cf) ∧ ∃ p : GrownBy, w'' = grow (W.drewN p.n) p.os) :=
  ⟨d[i]!.1, d[i]!.2, d[j]!.1, d[j]!.2, cfR d[i]! d[j]!, cfR_lt _ _, fun n' os => (r.cells (h.grown n' os) hs i hi).1, fun n' os => (r.cells (h.grown n' os) hs i hi).2.1,
    fun n' os => (r.cells (h.grown n' os) hs j hj).1, fun n' os => (r.cells (h.grown n' os) hs j hj).2.1, Lib.hid fun n' os => cmp_grown d[i]! d[j]! W n' os⟩
/-- an exchange of two of the row's -/
theorem RowR.swap {w0 W : World} {b off n : Nat} {d : Array R} (r : RowR w0 b off n) (h : SW w0 b off d W) (hs : d.size = n) (i j : Nat) (hi : i < n) (hj : j < n) :
    ∃ x1 x2 y1 y2 : Int,
      (W.cell? ⟨b, off + i * 2, none⟩ = some (.int .i64 x1) ∧ W.cell? ⟨b, off + i * 2 + 1, none⟩ = some (.int .i64 x2) ∧ W.frozen? ⟨b, off + i * 2, none⟩ = false ∧ W.frozen? ⟨b, off + i * 2 + 1, none⟩ = false) ∧
      (W.cell? ⟨b, off + j * 2, none⟩ = some (.int .i64 y1) ∧ W.cell? ⟨b, off + j * 2 + 1, none⟩ = some (.int .i64 y2) ∧ W.frozen? ⟨b, off + j * 2, none⟩ = false ∧ W.frozen? ⟨b, off + j * 2 + 1, none⟩ = false) ∧
      Hid (SW w0 b off (swp d i j) ((((W.setCell ⟨b, off + i * 2, none⟩ (.int .i64 y1)).setCell ⟨b, off + i * 2 + 1, none⟩ (.int .i64 y2)).setCell ⟨b, off + j * 2, none⟩ (.int .i64 x1)).setCell ⟨b, off + j * 2 + 1, none⟩ (.int .i64 x2)).drew) :=
  ⟨d[i]!.1, d[i]!.2, d[j]!.1, d[j]!.2, r.cells h hs i hi, r.cells h hs j hj, Lib.hid (SW.swapped h r.hb i j (by rw [hs]; exact hi) (by rw [hs]; exact hj)).drew⟩
end Go.Proofs.YtinpglfclbnhlaaGreatDoor

namespace Go.Proofs.YtinpglfclbnhlaaGreatDoor
open Go.RowKit Go.Sort Go.Shelf
set_option linter.unusedVariables false
set_option maxHeartbeats 2000000 in
theorem ins_any {w0 : World} {b off n : Nat} (R0 : RowR w0 b off n) (cap : Nat) (d : Array R) (a c : Nat) (w : World) (hW : SW w0 b off d w) (hs : d.size = n) (hac : a ≤ c) (hc : c ≤ n) :
    Calls Tryz.prog 97 #[.slice (some ⟨b, off, none⟩) n cap, .int .i64 a, .int .i64 c, fvR] w fun e w' => e = .returned (.tuple #[]) ∧ SW w0 b off (Sort.insertionSort ltR d a c) w' := by
  have mx := mixed
  have hn := R0.hn
  have RW := Lib.hid R0
  clear R0
  have HW := Lib.hid hW
  clear hW
  unfold fvR
  go_enter Tryz.func97, Tryz.ntmps97
  go_wp2
  go_loopw [8] (fun vi wr => ∃ (i : Nat) (dk : Array R), vi = .int .i64 i ∧ a < i ∧ i ≤ c + 1 ∧ dk.size = n ∧ SW w0 b off dk wr ∧ Hid (insOuter ltR a c i dk = insOuter ltR a c (a + 1) d)) (fun vi _ => n + 1 - (intOf vi).toNat)
  case atStart => exact ⟨a + 1, d, by go_num, by omega, by omega, hs, HW.out, Lib.hid rfl⟩
  case round =>
    obtain ⟨i, dk, rfl, hai, hic, hsk, hwr, HO⟩ := hrel
    have HWR := Lib.hid hwr
    clear hwr
    by_cases hlt : i < c
    · have hltb : decide ((i : Int) < (c : Int)) = true := decide_eq_true (by omega)
      go_wp2
      go_loopw [9] (fun vj wr2 => ∃ (j : Nat) (dj : Array R), vj = .int .i64 j ∧ a ≤ j ∧ j ≤ i ∧ dj.size = n ∧ SW w0 b off dj wr2 ∧ Hid (insInner ltR a j dj = insInner ltR a i dk)) (fun vj _ => (intOf vj).toNat)
      case atStart => exact ⟨i, dk, rfl, by omega, Nat.le_refl _, hsk, HWR.out, Lib.hid rfl⟩
      case round =>
        obtain ⟨j, dj, rfl, haj, hji, hsj, hwr2, HI⟩ := hrel
        have HJ := Lib.hid hwr2
        clear hwr2
        by_cases hja : a < j
        · obtain ⟨p, rfl⟩ : ∃ p, j = p + 1 := ⟨j - 1, by omega⟩
          have hjab : decide (((p + 1 : Nat) : Int) > (a : Int)) = true := decide_eq_true (by omega)
          have hjz : decide ((p : Int) + 1 > (a : Int)) = true := decide_eq_true (by omega)
          have hjz2 : (a : Int) < (p : Int) + 1 := by omega
          have wp1 : IntKind.i64.wrap (p : Int) = (p : Int) := by rw [IntKind.wrap_i64]; omega
          have e0 : ((p : Int) + 1).toNat = p + 1 := by omega
          have z1 : (p : Int) + 1 < (n : Int) := by omega
          have z2 : (p : Int) < (n : Int) := by omega
          have z0 : (0 : Int) ≤ (p : Int) + 1 := by omega
          have CX := fun n' os => cmp_grown dj[p + 1]! dj[p]! wr n' os
          have cj := fun n' os => RW.out.cells (HJ.out.grown n' os) hsj (p + 1) (by omega)
          have cp := fun n' os => RW.out.cells (HJ.out.grown n' os) hsj p (by omega)
          have cj1 := fun n' os => (cj n' os).1
          have cj2 := fun n' os => (cj n' os).2.1
          have cp1 := fun n' os => (cp n' os).1
          have cp2 := fun n' os => (cp n' os).2.1
          clear cj cp
          obtain ⟨x1, x2, hx⟩ : ∃ x1 x2, dj[p + 1]! = (x1, x2) := ⟨_, _, rfl⟩
          obtain ⟨y1, y2, hy⟩ : ∃ x1 x2, dj[p]! = (x1, x2) := ⟨_, _, rfl⟩
          rw [hx] at cj1 cj2 CX
          rw [hy] at cp1 cp2 CX
          dsimp only at cj1 cj2 cp1 cp2 CX
          generalize hcf : cfR (x1, x2) (y1, y2) = cf at CX
          have CXX := Lib.hid CX
          clear CX
          have HX := Lib.hid hx
          have HY := Lib.hid hy
          have HC := Lib.hid hcf
          clear hx hy hcf
          by_cases hl : cf < 0
          · have hlb : decide (cf < 0) = true := decide_eq_true hl
            go_wp2_with fail
            go_quiet_grown (first | (go_at_call 79; exact CXX.out _ _))
            go_wp2_with fail
            have HG := Lib.hid (HJ.out.grown nq osq)
            generalize grow (wr.drewN nq) osq = W2 at HG ⊢
            clear cj1 cj2 cp1 cp2
            have f1 := (RW.out.cells HG.out hsj (p + 1) (by omega))
            have f2 := (RW.out.cells HG.out hsj p (by omega))
            rw [HX.out] at f1
            rw [HY.out] at f2
            obtain ⟨fa, fb, fc, fd⟩ := f1
            obtain ⟨ga, gb, gc, gd⟩ := f2
            dsimp only at fa fb ga gb
            go_region
            all_goals go_wp2
            refine ⟨⟨p, swp dj (p + 1) p, rfl, by omega, by omega, by rw [size_swp]; exact hsj, ?_, ?_⟩, ?_⟩
            · have h := (SW.swapped HG.out RW.out.hb (p + 1) p (by omega) (by omega)).drew
              rw [HX.out, HY.out] at h
              exact h
            · have h := insInner_go ltR a (p + 1) dj hja (by simp only [Nat.add_sub_cancel]; rw [← cfR_lt, HX.out, HY.out, HC.out]; exact hlb)
              simp only [Nat.add_sub_cancel] at h
              exact Lib.hid (h.symm.trans HI.out)
            · simp only [intOf]; omega
          · have hlb : decide (cf < 0) = false := decide_eq_false hl
            go_wp2_with fail
            go_quiet_grown (first | (go_at_call 79; exact CXX.out _ _))
            go_wp2
            refine ⟨⟨i + 1, dj, by go_num, by omega, by omega, hsj, HJ.out.grown _ _, Lib.hid ?_⟩, ?_⟩
            · rw [← HO.out, insOuter_go _ _ _ _ _ hlt, ← HI.out, insInner_stop _ _ _ _ (Or.inr (by simp only [Nat.add_sub_cancel]; rw [← cfR_lt, HX.out, HY.out, HC.out]; exact hlb))]
            · simp only [intOf]; omega
        · have hjb : decide ((j : Int) > (a : Int)) = false := decide_eq_false (by omega)
          have hjn : ¬ (a : Int) < (j : Int) := by omega
          go_wp2_with fail
          go_region
          all_goals go_wp2
          refine ⟨⟨i + 1, dj, by go_num, by omega, by omega, hsj, HJ.out.drew, Lib.hid ?_⟩, ?_⟩
          · rw [← HO.out, insOuter_go _ _ _ _ _ hlt, ← HI.out, insInner_stop _ _ _ _ (Or.inl (by omega))]
          · simp only [intOf]; omega
    · have hltb : decide ((i : Int) < (c : Int)) = false := decide_eq_false (by omega)
      go_wp2
      go_end0
      refine ⟨rfl, ?_⟩
      unfold Sort.insertionSort
      rw [← HO.out, insOuter_stop _ _ _ _ _ hlt]
      exact HWR.out
end Go.Proofs.YtinpglfclbnhlaaGreatDoor

namespace Go.Proofs.YtinpglfclbnhlaaGreatDoor
open Go.RowKit Go.Sort Go.Shelf
set_option linter.unusedVariables false
set_option maxHeartbeats 2000000 in
theorem rev_any {w0 : World} {b off n : Nat} (R0 : RowR w0 b off n) (cap : Nat) (fv : Value) (d : Array R) (a c : Nat) (w : World) (hW : SW w0 b off d w) (hs : d.size = n) (hac : a < c) (hc : c ≤ n) :
    Calls Tryz.prog 101 #[.slice (some ⟨b, off, none⟩) n cap, .int .i64 a, .int .i64 c, fv] w fun e w' => e = .returned (.tuple #[]) ∧ SW w0 b off (Sort.reverseRange d a c) w' := by
  have mx := mixed
  have hn := R0.hn
  have RW := Lib.hid R0
  clear R0
  have HW := Lib.hid hW
  clear hW
  obtain ⟨c, rfl⟩ : ∃ c', c = c' + 1 := ⟨c - 1, by omega⟩
  have wc : IntKind.i64.wrap (c : Int) = (c : Int) := by rw [IntKind.wrap_i64]; omega
  go_enter Tryz.func101, Tryz.ntmps101
  go_wp2
  go_loopw [8, 9] (fun vi vj wr => ∃ (i j : Nat) (dk : Array R), vi = .int .i64 i ∧ vj = .int .i64 j ∧ a ≤ i ∧ i ≤ j + 1 ∧ j ≤ c ∧ dk.size = n ∧ SW w0 b off dk wr ∧ Hid (reverseLoop i j dk = reverseLoop a c d)) (fun _ vj _ => (intOf vj).toNat)
  case atStart => exact ⟨a, c, d, rfl, by go_num, by omega, by omega, by omega, hs, HW.out, Lib.hid rfl⟩
  case round =>
    obtain ⟨i, j, dk, rfl, rfl, hai, hij, hjc, hsk, hwr, HO⟩ := hrel
    have HWR := Lib.hid hwr
    clear hwr
    by_cases hlt : i < j
    · obtain ⟨j, rfl⟩ : ∃ j', j = j' + 1 := ⟨j - 1, by omega⟩
      have b1 : decide ((i : Int) < (j : Int) + 1) = true := decide_eq_true (by omega)
      have b1' : (i : Int) < (j : Int) + 1 := by omega
      have wj : IntKind.i64.wrap (j : Int) = (j : Int) := by rw [IntKind.wrap_i64]; omega
      have e0 : ((j : Int) + 1).toNat = j + 1 := by omega
      have z1 : (j : Int) + 1 < (n : Int) := by omega
      have z2 : (i : Int) < (n : Int) := by omega
      have z0 : (0 : Int) ≤ (j : Int) + 1 := by omega
      obtain ⟨x1, x2, y1, y2, ⟨fa, fb, fc, fd⟩, ⟨ga, gb, gc, gd⟩, HS⟩ := RW.out.swap HWR.out hsk i (j + 1) (by omega) (by omega)
      go_wp2_with fail
      go_region
      all_goals go_wp2
      refine ⟨⟨i + 1, j, swp dk i (j + 1), by go_num, by go_num, by omega, by omega, by omega, by rw [size_swp]; exact hsk, HS.out, ?_⟩, ?_⟩
      · have h : reverseLoop i (j + 1) dk = reverseLoop (i + 1) j (swp dk i (j + 1)) := by rw [reverseLoop, if_pos hlt]; rfl
        exact Lib.hid (h.symm.trans HO.out)
      · simp only [intOf]; omega
    · have b1 : decide ((i : Int) < (j : Int)) = false := decide_eq_false (by omega)
      go_wp2
      go_end0
      refine ⟨rfl, ?_⟩
      unfold Sort.reverseRange
      have h : reverseLoop i j dk = dk := by rw [reverseLoop, if_neg hlt]
      rw [show c + 1 - 1 = c from rfl, ← HO.out, h]
      exact HWR.out
end Go.Proofs.YtinpglfclbnhlaaGreatDoor

namespace Go.Proofs.YtinpglfclbnhlaaGreatDoor
open Go.RowKit Go.Sort Go.Shelf
set_option linter.unusedVariables false
/-- the row, and the counter -/
def CW (w0 : World) (b off : Nat) (d : Array R) (sb : Nat) (s : Nat) (W : World) : Prop :=
  SW w0 b off d W ∧ W.cell? ⟨sb, 0, none⟩ = some (.int .i64 s) ∧ W.frozen? ⟨sb, 0, none⟩ = false ∧ w0.heap.size ≤ sb ∧ sb < W.heap.size
theorem CW.grown {w0 W : World} {b off sb s : Nat} {d : Array R} (h : CW w0 b off d sb s W) (n : Nat) (os : Array Obj) : CW w0 b off d sb s (grow (W.drewN n) os) := CntK.grown h n os
theorem CW.drew {w0 W : World} {b off sb s : Nat} {d : Array R} (h : CW w0 b off d sb s W) : CW w0 b off d sb s W.drew := ⟨h.1.drew, h.2⟩
theorem CW.bump {w0 W : World} {b off sb s : Nat} {d : Array R} (h : CW w0 b off d sb s W) (t : Nat) : CW w0 b off d sb t (W.setCell ⟨sb, 0, none⟩ (.int .i64 t)) := CntK.bump h t
set_option maxHeartbeats 1000000 in
theorem order2_any {w0 : World} {b off n : Nat} (R0 : RowR w0 b off n) (cap : Nat) (d : Array R) (sb s x y : Nat) (w : World) (hW : CW w0 b off d sb s w) (hs : d.size = n) (hx : x < n) (hy : y < n) (hsm : s ≤ 1000) :
    Calls Tryz.prog 117 #[.slice (some ⟨b, off, none⟩) n cap, .int .i64 x, .int .i64 y, .pointer (some ⟨sb, 0, none⟩), fvR] w fun e w' =>
      e = .returned (.tuple #[.int .i64 (order2 ltR d x y s).1, .int .i64 (order2 ltR d x y s).2.1]) ∧ CW w0 b off d sb (order2 ltR d x y s).2.2 w' := by
  have mx := mixed
  have hn := R0.hn
  obtain ⟨x1, x2, y1, y2, cf, hcf, cj1, cj2, cp1, cp2, CX⟩ := R0.two hW.1 hs y x hy hx
  have HW := Lib.hid hW
  clear hW
  have zx : (x : Int) < (n : Int) := by omega
  have zy : (y : Int) < (n : Int) := by omega
  unfold fvR
  rcases hl : decide (cf < 0) with _ | _
  · have hcn : ¬ cf < 0 := of_decide_eq_false hl
    have e : order2 ltR d x y s = (x, y, s) := by unfold order2; rw [if_neg (by rw [← hcf, hl]; simp)]
    rw [e]
    clear e hcf
    go_enter Tryz.func117, Tryz.ntmps117
    go_wp2_with fail
    go_quiet_grown (first | (go_at_call 79; exact CX.out _ _))
    go_wp2
    (try simp only [Exit.inBlock, Exit.then]); refine bodyPost_ret (results_tmp2 rfl _ _ _) rfl ?_
    exact ⟨rfl, HW.out.grown _ _⟩
  · have hcn : cf < 0 := of_decide_eq_true hl
    have e : order2 ltR d x y s = (y, x, s + 1) := by unfold order2; rw [if_pos (by rw [← hcf, hl])]
    rw [e]
    clear e hcf
    go_enter Tryz.func117, Tryz.ntmps117
    go_wp2_with fail
    go_quiet_grown (first | (go_at_call 79; exact CX.out _ _))
    clear cj1 cj2 cp1 cp2
    have HG := Lib.hid (HW.out.grown nq osq)
    generalize grow (w.drewN nq) osq = W2 at HG ⊢
    obtain ⟨_, f1, f2, f3, f4⟩ := HG.out
    have ws : IntKind.i64.wrap ((s : Int) + 1) = (s : Int) + 1 := by rw [IntKind.wrap_i64]; omega
    go_wp2
    (try simp only [Exit.inBlock, Exit.then]); refine bodyPost_ret (results_tmp2 rfl _ _ _) rfl ?_
    exact ⟨rfl, HG.out.bump (s + 1)⟩
set_option maxHeartbeats 1000000 in
theorem median_any {w0 : World} {b off n : Nat} (R0 : RowR w0 b off n) (cap : Nat) (d : Array R) (sb s x y z : Nat) (w : World) (hW : CW w0 b off d sb s w) (hs : d.size = n) (hx : x < n) (hy : y < n) (hz : z < n) (hsm : s ≤ 500) :
    Calls Tryz.prog 113 #[.slice (some ⟨b, off, none⟩) n cap, .int .i64 x, .int .i64 y, .int .i64 z, .pointer (some ⟨sb, 0, none⟩), fvR] w fun e w' =>
      e = .returned (.int .i64 (Sort.median ltR d x y z s).1) ∧ CW w0 b off d sb (Sort.median ltR d x y z s).2 w' := by
  have O : ∀ (x y s : Nat), x < n → y < n → s ≤ 1000 → ∀ w, CW w0 b off d sb s w → Calls Tryz.prog 117 #[.slice (some ⟨b, off, none⟩) n cap, .int .i64 x, .int .i64 y, .pointer (some ⟨sb, 0, none⟩), fvR] w fun e w' =>
      e = .returned (.tuple #[.int .i64 (order2 ltR d x y s).1, .int .i64 (order2 ltR d x y s).2.1]) ∧ CW w0 b off d sb (order2 ltR d x y s).2.2 w' := fun x y s hx hy hsm w hW => order2_any R0 cap d sb s x y w hW hs hx hy hsm
  have B : ∀ (x y s : Nat), x < n → y < n → (order2 ltR d x y s).1 < n ∧ (order2 ltR d x y s).2.1 < n ∧ (order2 ltR d x y s).2.2 ≤ s + 1 := by
    intro x y s hx hy
    unfold order2
    split
    · exact ⟨hy, hx, by simp⟩
    · exact ⟨hx, hy, by simp⟩
  have HO := Lib.hid O
  clear O
  have B1 := B x y s hx hy
  unfold Sort.median
  generalize e1 : order2 ltR d x y s = r1 at B1 ⊢
  obtain ⟨a1, b1, s1⟩ := r1
  have B2 := B b1 z s1 B1.2.1 hz
  dsimp only at B1 B2 ⊢
  generalize e2 : order2 ltR d b1 z s1 = r2 at B2 ⊢
  obtain ⟨a2, b2, s2⟩ := r2
  dsimp only at B2 ⊢
  have B3 := B a1 a2 s2 B1.1 B2.1
  generalize e3 : order2 ltR d a1 a2 s2 = r3 at B3 ⊢
  obtain ⟨a3, b3, s3⟩ := r3
  dsimp only at B3 ⊢
  have C1 := HO.out x y s hx hy (by omega) w hW
  have C2 := HO.out b1 z s1 B1.2.1 hz (by omega)
  have C3 := HO.out a1 a2 s2 B1.1 B2.1 (by omega)
  rw [e1] at C1
  rw [e2] at C2
  rw [e3] at C3
  clear e1 e2 e3 B B1 B2 B3 HO hW
  dsimp only at C1 C2 C3
  have C1 := Lib.hid C1
  have C2 := Lib.hid C2
  have C3 := Lib.hid C3
  unfold fvR at C1 C2 C3 ⊢
  go_enter Tryz.func113, Tryz.ntmps113
  go_wp2_with fail
  refine (C1.out).mono ?_
  rintro e w1 ⟨rfl, h1⟩
  have H1 := Lib.hid h1
  clear h1
  go_wp2_with fail
  refine (C2.out _ H1.out).mono ?_
  rintro e w2 ⟨rfl, h2⟩
  have H2 := Lib.hid h2
  clear h2
  go_wp2_with fail
  refine (C3.out _ H2.out).mono ?_
  rintro e w3 ⟨rfl, h3⟩
  go_wp2
  go_ret
  exact ⟨rfl, h3⟩
end Go.Proofs.YtinpglfclbnhlaaGreatDoor

namespace Go.Proofs.YtinpglfclbnhlaaGreatDoor
open Go.RowKit Go.Sort Go.Shelf
set_option linter.unusedVariables false
set_option linter.unusedSimpArgs false
theorem adj_any {w0 : World} {b off n : Nat} (R0 : RowR w0 b off n) (cap : Nat) (d : Array R) (sb s x : Nat) (w : World) (hW : CW w0 b off d sb s w) (hs : d.size = n) (h0 : 1 ≤ x) (hx : x + 1 < n) (hsm : s ≤ 500) :
    Calls Tryz.prog 112 #[.slice (some ⟨b, off, none⟩) n cap, .int .i64 x, .pointer (some ⟨sb, 0, none⟩), fvR] w fun e w' =>
      e = .returned (.int .i64 (Sort.medianAdjacent ltR d x s).1) ∧ CW w0 b off d sb (Sort.medianAdjacent ltR d x s).2 w' := by
  have C := fun w hW => median_any R0 cap d sb s (x - 1) x (x + 1) w hW hs (by omega) (by omega) hx hsm
  have hn := R0.hn
  unfold Sort.medianAdjacent
  generalize Sort.median ltR d (x - 1) x (x + 1) s = m at C ⊢
  obtain ⟨p, rfl⟩ : ∃ p, x = p + 1 := ⟨x - 1, by omega⟩
  simp only [Nat.add_sub_cancel] at C
  have C := Lib.hid C
  have HW := Lib.hid hW
  clear hW
  have wp1 : IntKind.i64.wrap (p : Int) = (p : Int) := by rw [IntKind.wrap_i64]; omega
  unfold fvR at C ⊢
  go_enter Tryz.func112, Tryz.ntmps112
  go_wp2_with (go_at_call 113; refine (C.out _ HW.out).mono ?_; rintro e w' ⟨rfl, h1⟩)
  go_ret
  exact ⟨rfl, h1⟩
theorem median_le (d : Array R) (x y z s n : Nat) (hx : x < n) (hy : y < n) (hz : z < n) : (Sort.median ltR d x y z s).1 < n ∧ (Sort.median ltR d x y z s).2 ≤ s + 3 := by
  have O : ∀ (x y s : Nat), x < n → y < n → (order2 ltR d x y s).1 < n ∧ (order2 ltR d x y s).2.1 < n ∧ (order2 ltR d x y s).2.2 ≤ s + 1 := by
    intro x y s hx hy
    unfold order2
    split
    · exact ⟨hy, hx, by simp⟩
    · exact ⟨hx, hy, by simp⟩
  unfold Sort.median
  have B1 := O x y s hx hy
  have B2 := O (order2 ltR d x y s).2.1 z (order2 ltR d x y s).2.2 B1.2.1 hz
  have B3 := O (order2 ltR d x y s).1 (order2 ltR d (order2 ltR d x y s).2.1 z (order2 ltR d x y s).2.2).1 (order2 ltR d (order2 ltR d x y s).2.1 z (order2 ltR d x y s).2.2).2.2 B1.1 B2.1
  dsimp only
  omega
theorem adj_le (d : Array R) (x s n : Nat) (h0 : 1 ≤ x) (hx : x + 1 < n) : (Sort.medianAdjacent ltR d x s).1 < n ∧ (Sort.medianAdjacent ltR d x s).2 ≤ s + 3 := by
  unfold Sort.medianAdjacent
  exact median_le d (x - 1) x (x + 1) s n (by omega) (by omega) hx
def hintI : Hint → Int | .unknown => 0 | .increasing => 1 | .decreasing => 2
set_option maxHeartbeats 1000000 in
theorem pivot_low {w0 : World} {b off n : Nat} (R0 : RowR w0 b off n) (cap : Nat) (d : Array R) (a l : Nat) (w : World) (hW : SW w0 b off d w) (hs : d.size = n) (hl : a + l ≤ n) (h12 : 12 < l) (h50 : l < 50) :
    Calls Tryz.prog 100 #[.slice (some ⟨b, off, none⟩) n cap, .int .i64 a, .int .i64 ((a : Int) + l), fvR] w fun e w' =>
      e = .returned (.tuple #[.int .i64 (Sort.choosePivot ltR d a (a + l)).1, .int .i64 (hintI (Sort.choosePivot ltR d a (a + l)).2)]) ∧ SW w0 b off d w' := by
  have hn := R0.hn
  have ws : IntKind.i64.wrap ((a : Int) + l - a) = l := by rw [IntKind.wrap_i64]; omega
  have CS : CW w0 b off d w.heap.size 0 (w.alloc (.cells #[.int .i64 0] 3)) := CntK.start (enc := encR) (k := 2) hW 3
  have g8 : decide ((8 : Int) ≤ l) = true := decide_eq_true (by omega)
  have c1 : ((a + l / 4 : Nat) : Int) = (a : Int) + (l : Int) / 4 := by omega
  have c2 : ((a + l / 4 * 2 : Nat) : Int) = (a : Int) + (l : Int) / 4 * 2 := by omega
  have c3 : ((a + l / 4 * 3 : Nat) : Int) = (a : Int) + (l : Int) / 4 * 3 := by omega
  have g50 : decide ((50 : Int) ≤ l) = false := decide_eq_false (by omega)
  have E : Sort.choosePivot ltR d a (a + l) = ((Sort.median ltR d (a + l / 4) (a + l / 4 * 2) (a + l / 4 * 3) 0).1, if (Sort.median ltR d (a + l / 4) (a + l / 4 * 2) (a + l / 4 * 3) 0).2 = 0 then .increasing else if (Sort.median ltR d (a + l / 4) (a + l / 4 * 2) (a + l / 4 * 3) 0).2 = 12 then .decreasing else .unknown) := by
    unfold Sort.choosePivot
    rw [Nat.add_sub_cancel_left]
    simp only [ge_iff_le, if_pos (show 8 ≤ l by omega), if_neg (show ¬ 50 ≤ l by omega), Nat.mul_one]
  rw [E]
  have C := median_any R0 cap d w.heap.size 0 (a + l / 4) (a + l / 4 * 2) (a + l / 4 * 3) _ CS hs (by omega) (by omega) (by omega) (by omega)
  rw [c1, c2, c3] at C
  generalize Sort.median ltR d (a + l / 4) (a + l / 4 * 2) (a + l / 4 * 3) 0 = m at C ⊢
  obtain ⟨mi, sw⟩ := m
  dsimp only at C ⊢
  clear E CS c1 c2 c3 hW
  have C := Lib.hid C
  unfold fvR at C ⊢
  go_enter Tryz.func100, Tryz.ntmps100
  go_wp2_with fail
  refine (C.out).mono ?_
  rintro e w1 ⟨rfl, h⟩
  have H := Lib.hid h
  clear h
  have mark := trivial
  obtain ⟨_, f1, f2, f3, f4⟩ := H.out
  rcases hs0 : decide (sw = 0) with _ | _
  · have n0 : ¬ sw = 0 := of_decide_eq_false hs0
    have q0 : decide ((sw : Int) = 0) = false := decide_eq_false (by omega)
    have q0' : ((sw : Int) == 0) = false := by simp; omega
    rcases hs1 : decide (sw = 12) with _ | _
    · have n1 : ¬ sw = 12 := of_decide_eq_false hs1
      have q1 : decide ((sw : Int) = 12) = false := decide_eq_false (by omega)
      have q1' : ((sw : Int) == 12) = false := by simp; omega
      go_wp2
      (try simp only [Exit.inBlock, Exit.then]); refine bodyPost_ret (results_tmp2 rfl _ _ _) rfl ?_
      refine ⟨?_, H.out.1⟩
      simp only [n0, n1, if_false, hintI, Act.tmps]; rfl
    · have n1 : sw = 12 := of_decide_eq_true hs1
      have q1 : decide ((sw : Int) = 12) = true := decide_eq_true (by omega)
      have q1' : ((sw : Int) == 12) = true := by simp; omega
      go_wp2
      (try simp only [Exit.inBlock, Exit.then]); refine bodyPost_ret (results_tmp2 rfl _ _ _) rfl ?_
      refine ⟨?_, H.out.1⟩
      simp only [n0, n1, if_false, if_true, hintI, Act.tmps]; rfl
  · have n0 : sw = 0 := of_decide_eq_true hs0
    have q0 : decide ((sw : Int) = 0) = true := decide_eq_true (by omega)
    have q0' : ((sw : Int) == 0) = true := by simp; omega
    go_wp2
    (try simp only [Exit.inBlock, Exit.then]); refine bodyPost_ret (results_tmp2 rfl _ _ _) rfl ?_
    refine ⟨?_, H.out.1⟩
    simp only [n0, if_true, hintI, Act.tmps]; rfl
set_option maxHeartbeats 1000000 in
theorem pivot_high {w0 : World} {b off n : Nat} (R0 : RowR w0 b off n) (cap : Nat) (d : Array R) (a l : Nat) (w : World) (hW : SW w0 b off d w) (hs : d.size = n) (hl : a + l ≤ n) (h12 : 12 < l) (h50 : 50 ≤ l) :
    Calls Tryz.prog 100 #[.slice (some ⟨b, off, none⟩) n cap, .int .i64 a, .int .i64 ((a : Int) + l), fvR] w fun e w' =>
      e = .returned (.tuple #[.int .i64 (Sort.choosePivot ltR d a (a + l)).1, .int .i64 (hintI (Sort.choosePivot ltR d a (a + l)).2)]) ∧ SW w0 b off d w' := by
  have hn := R0.hn
  have ws : IntKind.i64.wrap ((a : Int) + l - a) = l := by rw [IntKind.wrap_i64]; omega
  have CS : CW w0 b off d w.heap.size 0 (w.alloc (.cells #[.int .i64 0] 3)) := CntK.start (enc := encR) (k := 2) hW 3
  have g8 : decide ((8 : Int) ≤ l) = true := decide_eq_true (by omega)
  have c1 : ((a + l / 4 : Nat) : Int) = (a : Int) + (l : Int) / 4 := by omega
  have c2 : ((a + l / 4 * 2 : Nat) : Int) = (a : Int) + (l : Int) / 4 * 2 := by omega
  have c3 : ((a + l / 4 * 3 : Nat) : Int) = (a : Int) + (l : Int) / 4 * 3 := by omega
  have g50 : decide ((50 : Int) ≤ l) = true := decide_eq_true (by omega)
  have A1 := adj_le d (a + l / 4) 0 n (by omega) (by omega)
  have D1 := adj_any R0 cap d w.heap.size 0 (a + l / 4) _ CS hs (by omega) (by omega) (by omega)
  have E : Sort.choosePivot ltR d a (a + l) = (
    let ri := Sort.medianAdjacent ltR d (a + l / 4) 0
    let rj := Sort.medianAdjacent ltR d (a + l / 4 * 2) ri.2
    let rk := Sort.medianAdjacent ltR d (a + l / 4 * 3) rj.2
    let m := Sort.median ltR d ri.1 rj.1 rk.1 rk.2
    (m.1, if m.2 = 0 then Hint.increasing else if m.2 = 12 then .decreasing else .unknown)) := by
    unfold Sort.choosePivot
    rw [Nat.add_sub_cancel_left]
    simp only [ge_iff_le, if_pos (show 8 ≤ l by omega), if_pos h50, Nat.mul_one]
  rw [E]
  clear E
  dsimp only
  generalize Sort.medianAdjacent ltR d (a + l / 4) 0 = r1 at A1 D1 ⊢
  obtain ⟨i1, s1⟩ := r1
  dsimp only at A1 D1 ⊢
  have A2 := adj_le d (a + l / 4 * 2) s1 n (by omega) (by omega)
  have D2 := fun sb w hW => adj_any R0 cap d sb s1 (a + l / 4 * 2) w hW hs (by omega) (by omega) (by omega)
  generalize Sort.medianAdjacent ltR d (a + l / 4 * 2) s1 = r2 at A2 D2 ⊢
  obtain ⟨i2, s2⟩ := r2
  dsimp only at A2 D2 ⊢
  have A3 := adj_le d (a + l / 4 * 3) s2 n (by omega) (by omega)
  have D3 := fun sb w hW => adj_any R0 cap d sb s2 (a + l / 4 * 3) w hW hs (by omega) (by omega) (by omega)
  generalize Sort.medianAdjacent ltR d (a + l / 4 * 3) s2 = r3 at A3 D3 ⊢
  obtain ⟨i3, s3⟩ := r3
  dsimp only at A3 D3 ⊢
  have D4 := fun sb w hW => median_any R0 cap d sb s3 i1 i2 i3 w hW hs (by omega) (by omega) (by omega) (by omega)
  generalize Sort.median ltR d i1 i2 i3 s3 = m at D4 ⊢
  obtain ⟨mi, sw⟩ := m
  dsimp only at D4 ⊢
  rw [c1] at D1
  rw [c2] at D2
  rw [c3] at D3
  clear CS c1 c2 c3 hW A1 A2 A3
  have D1 := Lib.hid D1
  have D2 := Lib.hid D2
  have D3 := Lib.hid D3
  have D4 := Lib.hid D4
  unfold fvR at D1 D2 D3 D4 ⊢
  go_enter Tryz.func100, Tryz.ntmps100
  go_wp2_with fail
  refine (D1.out).mono ?_
  rintro e w1 ⟨rfl, h⟩
  have H1 := Lib.hid h
  clear h
  go_wp2_with fail
  refine (D2.out _ _ H1.out).mono ?_
  rintro e w2 ⟨rfl, h⟩
  have H2 := Lib.hid h
  clear h
  go_wp2_with fail
  refine (D3.out _ _ H2.out).mono ?_
  rintro e w3 ⟨rfl, h⟩
  have H3 := Lib.hid h
  clear h
  go_wp2_with fail
  refine (D4.out _ _ H3.out).mono ?_
  rintro e w4 ⟨rfl, h⟩
  have H := Lib.hid h
  clear h
  have mark := trivial
  obtain ⟨_, f1, f2, f3, f4⟩ := H.out
  rcases hs0 : decide (sw = 0) with _ | _
  · have n0 : ¬ sw = 0 := of_decide_eq_false hs0
    have q0 : decide ((sw : Int) = 0) = false := decide_eq_false (by omega)
    have q0' : ((sw : Int) == 0) = false := by simp; omega
    rcases hs1 : decide (sw = 12) with _ | _
    · have n1 : ¬ sw = 12 := of_decide_eq_false hs1
      have q1 : decide ((sw : Int) = 12) = false := decide_eq_false (by omega)
      have q1' : ((sw : Int) == 12) = false := by simp; omega
      go_wp2
      (try simp only [Exit.inBlock, Exit.then]); refine bodyPost_ret (results_tmp2 rfl _ _ _) rfl ?_
      refine ⟨?_, H.out.1⟩
      simp only [n0, n1, if_false, hintI, Act.tmps]; rfl
    · have n1 : sw = 12 := of_decide_eq_true hs1
      have q1 : decide ((sw : Int) = 12) = true := decide_eq_true (by omega)
      have q1' : ((sw : Int) == 12) = true := by simp; omega
      go_wp2
      (try simp only [Exit.inBlock, Exit.then]); refine bodyPost_ret (results_tmp2 rfl _ _ _) rfl ?_
      refine ⟨?_, H.out.1⟩
      simp only [n0, n1, if_false, if_true, hintI, Act.tmps]; rfl
  · have n0 : sw = 0 := of_decide_eq_true hs0
    have q0 : decide ((sw : Int) = 0) = true := decide_eq_true (by omega)
    have q0' : ((sw : Int) == 0) = true := by simp; omega
    go_wp2
    (try simp only [Exit.inBlock, Exit.then]); refine bodyPost_ret (results_tmp2 rfl _ _ _) rfl ?_
    refine ⟨?_, H.out.1⟩
    simp only [n0, if_true, hintI, Act.tmps]; rfl
theorem pivot_any {w0 : World} {b off n : Nat} (R0 : RowR w0 b off n) (cap : Nat) (d : Array R) (a l : Nat) (w : World) (hW : SW w0 b off d w) (hs : d.size = n) (hl : a + l ≤ n) (h12 : 12 < l) :
    Calls Tryz.prog 100 #[.slice (some ⟨b, off, none⟩) n cap, .int .i64 a, .int .i64 ((a : Int) + l), fvR] w fun e w' =>
      e = .returned (.tuple #[.int .i64 (Sort.choosePivot ltR d a (a + l)).1, .int .i64 (hintI (Sort.choosePivot ltR d a (a + l)).2)]) ∧ SW w0 b off d w' := by
  by_cases h : l < 50
  · exact pivot_low R0 cap d a l w hW hs hl h12 h
  · exact pivot_high R0 cap d a l w hW hs hl h12 (by omega)
end Go.Proofs.YtinpglfclbnhlaaGreatDoor

namespace Go.Proofs.YtinpglfclbnhlaaGreatDoor
open Go.RowKit Go.Sort Go.Shelf
set_option linter.unusedVariables false
def chF (d : Array R) (hi first r : Nat) : Nat := if decide (2 * r + 1 + 1 < hi) && ltR d[first + (2 * r + 1)]! d[first + (2 * r + 1) + 1]! then 2 * r + 2 else 2 * r + 1
theorem sift_stop (hi first r : Nat) (d : Array R) (h : ¬ 2 * r + 1 < hi) : siftDown ltR hi first r d = d := by rw [siftDown, dif_pos (by omega)]
theorem sift_step (hi first r : Nat) (d : Array R) (h : 2 * r + 1 < hi) : siftDown ltR hi first r d = if ltR d[first + r]! d[first + chF d hi first r]! then siftDown ltR hi first (chF d hi first r) (swp d (first + r) (first + chF d hi first r)) else d := by
  rw [siftDown, dif_neg (by omega)]
  unfold chF
  by_cases c : (decide (2 * r + 1 + 1 < hi) && ltR d[first + (2 * r + 1)]! d[first + (2 * r + 1) + 1]!) = true
  · rw [if_pos c, if_pos c]
    have g : 2 * r + 2 < hi := by simp at c; omega
    by_cases e : ltR d[first + r]! d[first + (2 * r + 2)]! = true
    · rw [if_neg (by simp [e]), dif_pos g, if_pos e]
    · rw [if_pos (by simpa using e), if_neg e]
  · rw [if_neg c, if_neg c]
    by_cases e : ltR d[first + r]! d[first + (2 * r + 1)]! = true
    · rw [if_neg (by simp [e]), if_pos e]
    · rw [if_pos (by simpa using e), if_neg e]
set_option maxHeartbeats 4000000 in
theorem sift_any {w0 : World} {b off n : Nat} (R0 : RowR w0 b off n) (cap : Nat) (d : Array R) (lo hi f : Nat) (w : World) (hW : SW w0 b off d w) (hs : d.size = n) (hhi : f + hi ≤ n) (hlo : lo ≤ n) :
    Calls Tryz.prog 109 #[.slice (some ⟨b, off, none⟩) n cap, .int .i64 lo, .int .i64 hi, .int .i64 f, fvR] w fun e w' => e = .returned (.tuple #[]) ∧ SW w0 b off (Sort.siftDown ltR hi f lo d) w' := by
  have mx := mixed
  have hn := R0.hn
  have RW := Lib.hid R0
  clear R0
  have HW := Lib.hid hW
  clear hW
  unfold fvR
  go_enter Tryz.func109, Tryz.ntmps109
  go_wp2
  go_loopw [10] (fun vi wr => ∃ (r : Nat) (dk : Array R), vi = .int .i64 r ∧ r ≤ n ∧ dk.size = n ∧ SW w0 b off dk wr ∧ Hid (siftDown ltR hi f r dk = siftDown ltR hi f lo d)) (fun vi _ => n - (intOf vi).toNat)
  case atStart => exact ⟨lo, d, rfl, by omega, hs, HW.out, Lib.hid rfl⟩
  case round =>
    obtain ⟨r, dk, rfl, hr, hsk, hwr, HO⟩ := hrel
    have HWR := Lib.hid hwr
    clear hwr
    by_cases hlt : 2 * r + 1 < hi
    · have b1 : decide ((2 * (r : Int) + 1) ≥ (hi : Int)) = false := decide_eq_false (by omega)
      have b1n : ¬ (hi : Int) ≤ 2 * (r : Int) + 1 := by omega
      have v1 : IntKind.i64.wrap (2 * (r : Int)) = 2 * (r : Int) := by rw [IntKind.wrap_i64]; omega
      have v2 : IntKind.i64.wrap (2 * (r : Int) + 1) = 2 * (r : Int) + 1 := by rw [IntKind.wrap_i64]; omega
      have v3 : IntKind.i64.wrap (2 * (r : Int) + 1 + 1) = 2 * (r : Int) + 1 + 1 := by rw [IntKind.wrap_i64]; omega
      have v4 : IntKind.i64.wrap ((f : Int) + (2 * (r : Int) + 1)) = (f : Int) + (2 * (r : Int) + 1) := by rw [IntKind.wrap_i64]; omega
      have v5 : IntKind.i64.wrap ((f : Int) + (2 * (r : Int) + 1) + 1) = (f : Int) + (2 * (r : Int) + 1) + 1 := by rw [IntKind.wrap_i64]; omega
      have v7 : IntKind.i64.wrap ((f : Int) + (r : Int)) = (f : Int) + (r : Int) := by rw [IntKind.wrap_i64]; omega
      have t1 : ((f : Int) + (2 * (r : Int) + 1)).toNat = f + (2 * r + 1) := by omega
      have t2 : ((f : Int) + (2 * (r : Int) + 1) + 1).toNat = f + (2 * r + 1) + 1 := by omega
      have t4 : ((f : Int) + (r : Int)).toNat = f + r := by omega
      have n1 : (0 : Int) ≤ (f : Int) + (2 * (r : Int) + 1) := by omega
      have n4 : (0 : Int) ≤ (f : Int) + (r : Int) := by omega
      have m1 : (f : Int) + (2 * (r : Int) + 1) < (n : Int) := by omega
      have m4 : (f : Int) + (r : Int) < (n : Int) := by omega
      have ST := Lib.hid (sift_step hi f r dk hlt)
      -- behind the choice of the child
      by_cases hc2 : 2 * r + 1 + 1 < hi
      · have b2 : decide ((2 * (r : Int) + 1 + 1) < (hi : Int)) = true := decide_eq_true (by omega)
        have b2n : (2 * (r : Int) + 1 + 1) < (hi : Int) := by omega
        have n2 : (0 : Int) ≤ (f : Int) + (2 * (r : Int) + 1) + 1 := by omega
        have m2 : (f : Int) + (2 * (r : Int) + 1) + 1 < (n : Int) := by omega
        obtain ⟨x1, x2, y1, y2, cf, hcf, cj1, cj2, cp1, cp2, CX⟩ := RW.out.two HWR.out hsk (f + (2 * r + 1)) (f + (2 * r + 1) + 1) (by omega) (by omega)
        have HCF := Lib.hid hcf
        clear hcf
        rcases hl : decide (cf < 0) with _ | _
        · have hcn : ¬ cf < 0 := of_decide_eq_false hl
          have hch : chF dk hi f r = 2 * r + 1 := by unfold chF; rw [if_neg (by rw [← HCF.out, hl]; simp)]
          go_wp2_with fail
          go_quiet_grown (first | (go_at_call 79; exact CX.out _ _))
          go_wp2_with fail
          have HG := Lib.hid (HWR.out.grown nq osq)
          generalize grow (wr.drewN nq) osq = W2 at HG ⊢
          clear cj1 cj2 cp1 cp2
          rw [hch] at ST
          have u1 : IntKind.i64.wrap ((f : Int) + (2 * (r : Int) + 1)) = (f : Int) + (2 * (r : Int) + 1) := by rw [IntKind.wrap_i64]; omega
          have u2 : ((f : Int) + (2 * (r : Int) + 1)).toNat = f + (2 * r + 1) := by omega
          have u3 : (f : Int) + (2 * (r : Int) + 1) < (n : Int) := by omega
          have u4 : (0 : Int) ≤ (f : Int) + (2 * (r : Int) + 1) := by omega
          obtain ⟨x1, x2, y1, y2, cg, hcg, dj1, dj2, dp1, dp2, CY⟩ := RW.out.two HG.out hsk (f + r) (f + (2 * r + 1)) (by omega) (by omega)
          have HCG := Lib.hid hcg
          clear hcg
          rcases hl2 : decide (cg < 0) with _ | _
          · have hcn2 : ¬ cg < 0 := of_decide_eq_false hl2
            go_wp2_with fail
            go_quiet_grown (first | (go_at_call 79; exact CY.out _ _))
            go_wp2
            (try simp only [Exit.inBlock, Exit.then]); refine bodyPost_ret (results_none rfl _ _ _) rfl ?_
            refine ⟨rfl, ?_⟩
            rw [← HO.out, ST.out, if_neg (by rw [← HCG.out, hl2]; simp)]
            exact HG.out.grown _ _
          · have hcn2 : cg < 0 := of_decide_eq_true hl2
            go_wp2_with fail
            go_quiet_grown (first | (go_at_call 79; exact CY.out _ _))
            go_wp2_with fail
            clear dj1 dj2 dp1 dp2
            have HK := Lib.hid (HG.out.grown nq osq)
            generalize grow (W2.drewN nq) osq = W3 at HK ⊢
            obtain ⟨x1, x2, y1, y2, ⟨fa, fb, fc, fd⟩, ⟨ga, gb, gc, gd⟩, HS⟩ := RW.out.swap HK.out hsk (f + r) (f + (2 * r + 1)) (by omega) (by omega)
            go_region
            all_goals go_wp2
            refine ⟨⟨2 * r + 1, swp dk (f + r) (f + (2 * r + 1)), by go_num, by omega, by rw [size_swp]; exact hsk, HS.out, Lib.hid ?_⟩, ?_⟩
            · rw [← HO.out, ST.out, if_pos (by rw [← HCG.out, hl2])]
            · simp only [intOf]; omega
        · have hcn : cf < 0 := of_decide_eq_true hl
          have hch : chF dk hi f r = 2 * r + 2 := by unfold chF; rw [if_pos (by rw [← HCF.out, hl]; simp; omega)]
          go_wp2_with fail
          go_quiet_grown (first | (go_at_call 79; exact CX.out _ _))
          go_wp2_with fail
          have HG := Lib.hid (HWR.out.grown nq osq)
          generalize grow (wr.drewN nq) osq = W2 at HG ⊢
          clear cj1 cj2 cp1 cp2
          rw [hch] at ST
          have u1 : IntKind.i64.wrap ((f : Int) + (2 * (r : Int) + 1 + 1)) = (f : Int) + (2 * (r : Int) + 1 + 1) := by rw [IntKind.wrap_i64]; omega
          have u2 : ((f : Int) + (2 * (r : Int) + 1 + 1)).toNat = f + (2 * r + 2) := by omega
          have u3 : (f : Int) + (2 * (r : Int) + 1 + 1) < (n : Int) := by omega
          have u4 : (0 : Int) ≤ (f : Int) + (2 * (r : Int) + 1 + 1) := by omega
          obtain ⟨x1, x2, y1, y2, cg, hcg, dj1, dj2, dp1, dp2, CY⟩ := RW.out.two HG.out hsk (f + r) (f + (2 * r + 2)) (by omega) (by omega)
          have HCG := Lib.hid hcg
          clear hcg
          rcases hl2 : decide (cg < 0) with _ | _
          · have hcn2 : ¬ cg < 0 := of_decide_eq_false hl2
            go_wp2_with fail
            go_quiet_grown (first | (go_at_call 79; exact CY.out _ _))
            go_wp2
            (try simp only [Exit.inBlock, Exit.then]); refine bodyPost_ret (results_none rfl _ _ _) rfl ?_
            refine ⟨rfl, ?_⟩
            rw [← HO.out, ST.out, if_neg (by rw [← HCG.out, hl2]; simp)]
            exact HG.out.grown _ _
          · have hcn2 : cg < 0 := of_decide_eq_true hl2
            go_wp2_with fail
            go_quiet_grown (first | (go_at_call 79; exact CY.out _ _))
            go_wp2_with fail
            clear dj1 dj2 dp1 dp2
            have HK := Lib.hid (HG.out.grown nq osq)
            generalize grow (W2.drewN nq) osq = W3 at HK ⊢
            obtain ⟨x1, x2, y1, y2, ⟨fa, fb, fc, fd⟩, ⟨ga, gb, gc, gd⟩, HS⟩ := RW.out.swap HK.out hsk (f + r) (f + (2 * r + 2)) (by omega) (by omega)
            go_region
            all_goals go_wp2
            refine ⟨⟨2 * r + 2, swp dk (f + r) (f + (2 * r + 2)), by go_num, by omega, by rw [size_swp]; exact hsk, HS.out, Lib.hid ?_⟩, ?_⟩
            · rw [← HO.out, ST.out, if_pos (by rw [← HCG.out, hl2])]
            · simp only [intOf]; omega
      · have b2 : decide ((2 * (r : Int) + 1 + 1) < (hi : Int)) = false := decide_eq_false (by omega)
        have b2n : ¬ (2 * (r : Int) + 1 + 1) < (hi : Int) := by omega
        have hch : chF dk hi f r = 2 * r + 1 := by unfold chF; rw [if_neg (by simp; omega)]
        go_wp2_with fail
        go_region
        all_goals go_wp2_with fail
        have HG := Lib.hid (HWR.out.drew)
        generalize wr.drew = W2 at HG ⊢
        rw [hch] at ST
        have u1 : IntKind.i64.wrap ((f : Int) + (2 * (r : Int) + 1)) = (f : Int) + (2 * (r : Int) + 1) := by rw [IntKind.wrap_i64]; omega
        have u2 : ((f : Int) + (2 * (r : Int) + 1)).toNat = f + (2 * r + 1) := by omega
        have u3 : (f : Int) + (2 * (r : Int) + 1) < (n : Int) := by omega
        have u4 : (0 : Int) ≤ (f : Int) + (2 * (r : Int) + 1) := by omega
        obtain ⟨x1, x2, y1, y2, cg, hcg, dj1, dj2, dp1, dp2, CY⟩ := RW.out.two HG.out hsk (f + r) (f + (2 * r + 1)) (by omega) (by omega)
        have HCG := Lib.hid hcg
        clear hcg
        rcases hl2 : decide (cg < 0) with _ | _
        · have hcn2 : ¬ cg < 0 := of_decide_eq_false hl2
          go_wp2_with fail
          go_quiet_grown (first | (go_at_call 79; exact CY.out _ _))
          go_wp2
          (try simp only [Exit.inBlock, Exit.then]); refine bodyPost_ret (results_none rfl _ _ _) rfl ?_
          refine ⟨rfl, ?_⟩
          rw [← HO.out, ST.out, if_neg (by rw [← HCG.out, hl2]; simp)]
          exact HG.out.grown _ _
        · have hcn2 : cg < 0 := of_decide_eq_true hl2
          go_wp2_with fail
          go_quiet_grown (first | (go_at_call 79; exact CY.out _ _))
          go_wp2_with fail
          clear dj1 dj2 dp1 dp2
          have HK := Lib.hid (HG.out.grown nq osq)
          generalize grow (W2.drewN nq) osq = W3 at HK ⊢
          obtain ⟨x1, x2, y1, y2, ⟨fa, fb, fc, fd⟩, ⟨ga, gb, gc, gd⟩, HS⟩ := RW.out.swap HK.out hsk (f + r) (f + (2 * r + 1)) (by omega) (by omega)
          go_region
          all_goals go_wp2
          refine ⟨⟨2 * r + 1, swp dk (f + r) (f + (2 * r + 1)), by go_num, by omega, by rw [size_swp]; exact hsk, HS.out, Lib.hid ?_⟩, ?_⟩
          · rw [← HO.out, ST.out, if_pos (by rw [← HCG.out, hl2])]
          · simp only [intOf]; omega
    · have b1 : decide ((2 * (r : Int) + 1) ≥ (hi : Int)) = true := decide_eq_true (by omega)
      have v1 : IntKind.i64.wrap (2 * (r : Int)) = 2 * (r : Int) := by rw [IntKind.wrap_i64]; omega
      go_wp2
      go_end0
      refine ⟨rfl, ?_⟩
      rw [← HO.out, sift_stop _ _ _ _ hlt]
      exact HWR.out
end Go.Proofs.YtinpglfclbnhlaaGreatDoor
