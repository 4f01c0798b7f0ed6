/-
  The sort of runs by their least numbers (slices.SortFunc with the method value order.compare): what a step of it does.
-/
import Derived.Test.YtndmohamjffpcaaDoorKp
import Derived.Test.YtndmohamjffpcaaDoorRunsM
import Derived.Test.YtndmohamjffpcaaDoorChecked
import Derived.LoopTactic
import Derived.Shelf.Abstract
import Derived.Deep.QuietTactic
import Derived.BigQuiet
import Derived.Shelf.SlSortCmp.KitK
import Derived.Sort.AssemblyPlain
namespace Go.Proofs.YtndmohamjffpcaaDoor
open Go.RowKit Go.Sort Go.Shelf
set_option linter.unusedVariables false
set_option linter.unusedSimpArgs false
def encR (r : R) : List Value := [.int .i64 r.1, .int .i64 r.2]
def cfR (x y : R) : Int := if x.1 < y.1 then -1 else if x.1 = y.1 then 0 else 1
def ltR (x y : R) : Bool := decide (x.1 < y.1)
theorem cfR_lt (x y : R) : decide (cfR x y < 0) = ltR x y := by
  unfold cfR ltR
  by_cases h : x.1 < y.1
  · simp [h]
  · by_cases h2 : x.1 = y.1 <;> simp [h, h2]
/-- the function value that is called -/
def fvR : Value := .func (.func 77) #[.agg #[]] #[]
theorem nan_any (x : Int) (w : World) : Calls Tryd.prog 92 #[.int .i64 x] w fun e w' => e = .returned (.bool false) ∧ w = w' := by
  go_enter Tryd.func92, Tryd.ntmps92
  have h1 : (x == x) = true := by simp
  have h2 : (x != x) = false := by simp
  go_wp2
  go_ret
  exact ⟨rfl, rfl⟩
theorem compare_any (x y : Int) (w : World) : Calls Tryd.prog 81 #[.int .i64 x, .int .i64 y] w fun e w' => e = .returned (.int .i64 (if x < y then -1 else if x = y then 0 else 1)) ∧ w = w' := by
  have N1 := Lib.hid (fun (x : Int) w => nan_any x w)
  by_cases h : x < y
  · have e : (if x < y then (-1 : Int) else if x = y then 0 else 1) = -1 := by simp [h]
    rw [e]
    have d : decide (x < y) = true := decide_eq_true h
    go_enter Tryd.func81, Tryd.ntmps81
    go_wp2_with fail; refine ((N1.out x _)).mono ?_; rintro e w' ⟨rfl, rfl⟩
    go_wp2_with fail; refine ((N1.out y _)).mono ?_; rintro e w' ⟨rfl, rfl⟩
    go_wp2
    go_ret
    exact ⟨rfl, rfl⟩
  · have d : decide (x < y) = false := decide_eq_false h
    by_cases h2 : x = y
    · have e : (if x < y then (-1 : Int) else if x = y then 0 else 1) = 0 := by simp [h, h2]
      rw [e]
      have d2 : decide (y < x) = false := decide_eq_false (by omega)
      have d3 : decide (x > y) = false := decide_eq_false (by omega)
      clear e h2
      go_enter Tryd.func81, Tryd.ntmps81
      go_wp2_with fail; refine ((N1.out x _)).mono ?_; rintro e w' ⟨rfl, rfl⟩
      go_wp2_with fail; refine ((N1.out y _)).mono ?_; rintro e w' ⟨rfl, rfl⟩
      go_wp2
      go_ret
      exact ⟨rfl, rfl⟩
    · have e : (if x < y then (-1 : Int) else if x = y then 0 else 1) = 1 := by simp [h, h2]
      rw [e]
      have d2 : decide (y < x) = true := decide_eq_true (by omega)
      have d3 : decide (x > y) = true := decide_eq_true (by omega)
      go_enter Tryd.func81, Tryd.ntmps81
      go_wp2_with fail; refine ((N1.out x _)).mono ?_; rintro e w' ⟨rfl, rfl⟩
      go_wp2_with fail; refine ((N1.out y _)).mono ?_; rintro e w' ⟨rfl, rfl⟩
      go_wp2
      go_ret
      exact ⟨rfl, rfl⟩
theorem cmp_any (x y : R) (w : World) : Calls Tryd.prog 77 #[.agg #[], .agg #[.int .i64 x.1, .int .i64 x.2], .agg #[.int .i64 y.1, .int .i64 y.2]] w fun e w' => e = .returned (.int .i64 (cfR x y)) ∧ ∃ os, w' = grow w os := by
  have C : ∀ w, Calls Tryd.prog 81 #[.int .i64 x.1, .int .i64 y.1] w fun e w' => e = .returned (.int .i64 (cfR x y)) ∧ w = w' := fun w => compare_any x.1 y.1 w
  have C := Lib.hid C
  generalize cfR x y = c at C ⊢
  go_enter Tryd.func77, Tryd.ntmps77
  go_wp2_with fail
  refine (C.out _).mono ?_
  rintro e w' ⟨rfl, rfl⟩
  go_wp2
  go_ret
  exact ⟨rfl, _, by rw [alloc_eq_grow, alloc_eq_grow, alloc_eq_grow, grow_grow, grow_grow]⟩
/-- the row while it is sorted: what it holds now, else what it was, with draws and new blocks -/
def SW (w0 : World) (b off : Nat) (d : Array R) (W : World) : Prop := SWK encR 2 w0 b off d W
theorem lenR : ∀ x, (encR x).length = 2 := fun _ => rfl
theorem oneR : ∀ x, ∀ v ∈ encR x, v.oneCell' = true := by
  intro x v h
  simp [encR] at h
  rcases h with rfl | rfl <;> rfl
/-- the row's two cells of a run, and that they may be written -/
theorem SW.cells {w0 W : World} {b off : Nat} {d d0 : Array R} (h : SW w0 b off d W) (hb : b < w0.heap.size) (h0 : HoldsK encR 2 w0 b off d0) (hs : d.size = d0.size) (i : Nat) (hi : i < d.size) :
    W.cell? ⟨b, off + i * 2, none⟩ = some (.int .i64 d[i]!.1) ∧ W.cell? ⟨b, off + i * 2 + 1, none⟩ = some (.int .i64 d[i]!.2) ∧ W.frozen? ⟨b, off + i * 2, none⟩ = false ∧ W.frozen? ⟨b, off + i * 2 + 1, none⟩ = false := by
  have H : HoldsK encR 2 W b off d := SWK.holds h hb h0 hs
  have a1 := HoldsK.cells H lenR hi 0 _ rfl
  have a2 := HoldsK.cells H lenR hi 1 _ rfl
  have sz : (flatK encR 2 d).size = d.size * 2 := by simp [flatK]
  have f1 := (H (i * 2) (by rw [sz]; omega)).2
  have f2 := (H (i * 2 + 1) (by rw [sz]; omega)).2
  exact ⟨a1, a2, f1, f2⟩
theorem SW.grown {w0 W : World} {b off : Nat} {d : Array R} (h : SW w0 b off d W) (n : Nat) (os : Array Obj) : SW w0 b off d (grow (W.drewN n) os) := SWK.grown h n os
theorem SW.drew {w0 W : World} {b off : Nat} {d : Array R} (h : SW w0 b off d W) : SW w0 b off d W.drew := SWK.drew h
theorem SW.swapped {w0 W : World} {b off : Nat} {d : Array R} (h : SW w0 b off d W) (hb : b < w0.heap.size) (i j : Nat) (hi : i < d.size) (hj : j < d.size) :
    SW w0 b off (swp d i j) ((((W.setCell ⟨b, off + i * 2, none⟩ (.int .i64 d[j]!.1)).setCell ⟨b, off + i * 2 + 1, none⟩ (.int .i64 d[j]!.2)).setCell ⟨b, off + j * 2, none⟩ (.int .i64 d[i]!.1)).setCell ⟨b, off + j * 2 + 1, none⟩ (.int .i64 d[i]!.2)) :=
  SWK.swap h lenR hb i j hi hj
/-- what the row is, at the beginning -/
structure RowR (w0 : World) (b off : Nat) (n : Nat) : Prop where
  hb : b < w0.heap.size
  h0 : ∃ d0 : Array R, HoldsK encR 2 w0 b off d0 ∧ d0.size = n
  hn : n < 4611686018427387904
theorem RowR.cells {w0 W : World} {b off n : Nat} {d : Array R} (r : RowR w0 b off n) (h : SW w0 b off d W) (hs : d.size = n) (i : Nat) (hi : i < n) :
    W.cell? ⟨b, off + i * 2, none⟩ = some (.int .i64 d[i]!.1) ∧ W.cell? ⟨b, off + i * 2 + 1, none⟩ = some (.int .i64 d[i]!.2) ∧ W.frozen? ⟨b, off + i * 2, none⟩ = false ∧ W.frozen? ⟨b, off + i * 2 + 1, none⟩ = false := by
  obtain ⟨d0, h0, e⟩ := r.h0
  exact SW.cells h r.hb h0 (by rw [hs, e]) i (by rw [hs]; exact hi)
/-- the comparison, called in a region that draws -/
theorem cmp_grown (x y : R) (w : World) (n : Nat) (os : Array Obj) : Calls Tryd.prog 77 #[.agg #[], .agg #[.int .i64 x.1, .int .i64 x.2], .agg #[.int .i64 y.1, .int .i64 y.2]] (grow (w.drewN n) os) fun e w'' => e = .returned (.int .i64 (cfR x y)) ∧ ∃ p : GrownBy, w'' = grow (w.drewN p.n) p.os :=
  Calls.grown_of ((cmp_any x y _).mono fun e w' h => ⟨h.1, 0, h.2.elim fun os h2 => ⟨os, h2⟩⟩)
theorem mixed : Tryd.prog.follows .mixedOrders = true := by kernel_rfl
/-- a comparison of two of the row's, in a region that draws -/
theorem RowR.two {w0 W : World} {b off n : Nat} {d : Array R} (r : RowR w0 b off n) (h : SW w0 b off d W) (hs : d.size = n) (i j : Nat) (hi : i < n) (hj : j < n) :
    ∃ x1 x2 y1 y2 cf : Int, decide (cf < 0) = ltR d[i]! d[j]! ∧
      (∀ n' os, (grow (W.drewN n') os).cell? ⟨b, off + i * 2, none⟩ = some (.int .i64 x1)) ∧ (∀ n' os, (grow (W.drewN n') os).cell? ⟨b, off + i * 2 + 1, none⟩ = some (.int .i64 x2)) ∧
      (∀ n' os, (grow (W.drewN n') os).cell? ⟨b, off + j * 2, none⟩ = some (.int .i64 y1)) ∧ (∀ n' os, (grow (W.drewN n') os).cell? ⟨b, off + j * 2 + 1, none⟩ = some (.int .i64 y2)) ∧
      Hid (∀ n' os, Calls Tryd.prog 77 #[.agg #[], .agg #[.int .i64 x1, .int .i64 x2], .agg #[.int .i64 y1, .int .i64 y2]] (grow (W.drewN n') os) fun e w'' => e = .returned (.int .i64 cf) ∧ ∃ p : GrownBy, w'' = grow (W.drewN p.n) p.os) :=
  ⟨d[i]!.1, d[i]!.2, d[j]!.1, d[j]!.2, cfR d[i]! d[j]!, cfR_lt _ _, fun n' os => (r.cells (h.grown n' os) hs i hi).1, fun n' os => (r.cells (h.grown n' os) hs i hi).2.1,
    fun n' os => (r.cells (h.grown n' os) hs j hj).1, fun n' os => (r.cells (h.grown n' os) hs j hj).2.1, Lib.hid fun n' os => cmp_grown d[i]! d[j]! W n' os⟩
/-- an exchange of two of the row's -/
theorem RowR.swap {w0 W : World} {b off n : Nat} {d : Array R} (r : RowR w0 b off n) (h : SW w0 b off d W) (hs : d.size = n) (i j : Nat) (hi : i < n) (hj : j < n) :
    ∃ x1 x2 y1 y2 : Int,
      (W.cell? ⟨b, off + i * 2, none⟩ = some (.int .i64 x1) ∧ W.cell? ⟨b, off + i * 2 + 1, none⟩ = some (.int .i64 x2) ∧ W.frozen? ⟨b, off + i * 2, none⟩ = false ∧ W.frozen? ⟨b, off + i * 2 + 1, none⟩ = false) ∧
      (W.cell? ⟨b, off + j * 2, none⟩ = some (.int .i64 y1) ∧ W.cell? ⟨b, off + j * 2 + 1, none⟩ = some (.int .i64 y2) ∧ W.frozen? ⟨b, off + j * 2, none⟩ = false ∧ W.frozen? ⟨b, off + j * 2 + 1, none⟩ = false) ∧
      Hid (SW w0 b off (swp d i j) ((((W.setCell ⟨b, off + i * 2, none⟩ (.int .i64 y1)).setCell ⟨b, off + i * 2 + 1, none⟩ (.int .i64 y2)).setCell ⟨b, off + j * 2, none⟩ (.int .i64 x1)).setCell ⟨b, off + j * 2 + 1, none⟩ (.int .i64 x2)).drew) :=
  ⟨d[i]!.1, d[i]!.2, d[j]!.1, d[j]!.2, r.cells h hs i hi, r.cells h hs j hj, Lib.hid (SW.swapped h r.hb i j (by rw [hs]; exact hi) (by rw [hs]; exact hj)).drew⟩
end Go.Proofs.YtndmohamjffpcaaDoor
