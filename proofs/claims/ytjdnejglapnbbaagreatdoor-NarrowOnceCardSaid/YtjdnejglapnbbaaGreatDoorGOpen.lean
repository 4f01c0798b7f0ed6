/-
  Joined: Open, OpenL, Leaves.
-/
import Derived.Test.YtjdnejglapnbbaaGreatDoorGBa
import Derived.Deep.SlicePairs
import Derived.Deep.Slices
import Derived.WideShapes
import Derived.ChangeArms
import Derived.Carry
import Derived.Test.YtjdnejglapnbbaaGreatDoorGLeafA
import Derived.Lib.SmallJoins
namespace Go.Proofs.YtjdnejglapnbbaaGreatDoor
open Go.RowKit Go.ChangeShapes Go.WideShapes Go.Deep
set_option linter.unusedVariables false
set_option linter.unusedSimpArgs false
section
variable {H : Type} {enc : TypeId × Value → H} {W : World} {v : Value} {d : DataW H} {p : List MemPlace} {base : Nat}
theorem cellsOfRun : Tryz.prog.cellsOf 53 = 2 := by kernel_rfl
theorem cellsOfInt : Tryz.prog.cellsOf 3 = 1 := by kernel_rfl
set_option maxRecDepth 100000 in
theorem open_runs (hv : Value.okWide Tryz.prog W .any base 38 v) (h : DataW.Trod enc Tryz.prog W 0 (fun _ => true) true 38 v d p) : ∃ l, RunsAt W v l ∧ I64R l := by
  obtain ⟨ad, ln, cp, rfl⟩ := okWide_slice Tryz.underlying38 hv
  obtain ⟨fuel, hf⟩ := h
  rcases open_slice_pairs Tryz.underlying38 Tryz.underlying53 cellsOfRun rfl rfl cellsOfInt cellsOfInt hf with ⟨hc, _⟩ | ⟨a, len, cap, m, k, V0, V1, D0, D1, P0, P1, hc, _, hl, hm, hmm, _, hall⟩
  · simp [Value.cells] at hc
    obtain ⟨rfl, rfl, rfl⟩ := hc
    exact ⟨[], .inl ⟨_, _, rfl, rfl⟩, fun r h => by cases h⟩
  · simp [Value.cells] at hc
    obtain ⟨rfl, rfl, rfl⟩ := hc
    simp only [if_true] at hmm
    subst hmm
    by_cases h0 : ln = 0
    · subst h0
      exact ⟨[], .inl ⟨_, _, rfl, rfl⟩, fun r h => by cases h⟩
    · obtain ⟨b, off, sp⟩ := a
      have hs : sp = none := by simpa [Addr.add] using World.cell?_spot (hall 0 (by omega)).1
      subst hs
      have each : ∀ i, i < ln → ∃ x y : Int, V0 i = .int .i64 x ∧ V1 i = .int .i64 y ∧ (Lit.int .i64 x).wf = true ∧ (Lit.int .i64 y).wf = true := by
        intro i hi
        obtain ⟨_, _, t0, t1⟩ := hall i (by omega)
        obtain ⟨x, e0, _, wx⟩ := DataW.trod_int Tryz.underlying3 t0
        obtain ⟨y, e1, _, wy⟩ := DataW.trod_int Tryz.underlying3 t1
        simp only [List.cons.injEq, and_true] at e0 e1
        exact ⟨x, y, e0, e1, wx, wy⟩
      let f : Nat → Value → Int := fun _ u => match u with | .int _ x => x | _ => 0
      let l : List R := (List.range ln).map fun i => (f i (V0 i), f i (V1 i))
      have ll : l.length = ln := by simp [l]
      have la : ∀ i, i < ln → at_ l i = (f i (V0 i), f i (V1 i)) := by
        intro i hi
        unfold at_
        simp [l, List.getD, hi]
      refine ⟨l, .inr ⟨b, off, m, by rw [ll], by rw [ll]; exact hl, hm, fun i hi => ?_⟩, fun r hr => ?_⟩
      · rw [ll] at hi
        obtain ⟨x, y, e0, e1, _, _⟩ := each i hi
        obtain ⟨c0, c1, _, _⟩ := hall i (by omega)
        rw [la i hi]
        rw [Addr.add_lit] at c0 c1
        rw [e0] at c0
        rw [e1] at c1
        rw [e0, e1]
        exact ⟨c0, c1⟩
      · simp only [l, List.mem_map, List.mem_range] at hr
        obtain ⟨i, hi, rfl⟩ := hr
        obtain ⟨x, y, e0, e1, wx, wy⟩ := each i hi
        rw [e0, e1]
        exact ⟨(wf_bd wx).1, (wf_bd wx).2, (wf_bd wy).1, (wf_bd wy).2⟩
end
end Go.Proofs.YtjdnejglapnbbaaGreatDoor

namespace Go.Proofs.YtjdnejglapnbbaaGreatDoor
open Go.RowKit Go.ChangeShapes Go.WideShapes Go.Deep Go.Joins
set_option linter.unusedVariables false
set_option linter.unusedSimpArgs false
section
variable {H : Type} {enc : TypeId × Value → H} {W : World} {v : Value} {d : DataW H} {p : List MemPlace} {base : Nat}
set_option maxRecDepth 100000 in
theorem runs_trod {fuel : Nat} {y : DataW H × List MemPlace} (hf : DataW.trod enc Tryz.prog W 0 (fun _ => true) true fuel 38 [v] = some y) : ∃ l, RunsAt W v l ∧ I64R l := by
  rcases open_slice_pairs Tryz.underlying38 Tryz.underlying53 cellsOfRun rfl rfl cellsOfInt cellsOfInt hf with ⟨hc, _⟩ | ⟨a, ln, cp, m, k, V0, V1, D0, D1, P0, P1, hc, _, hl, hm, hmm, _, hall⟩
  · simp at hc
    subst hc
    exact ⟨[], .inl ⟨_, _, rfl, rfl⟩, fun r h => by cases h⟩
  · simp at hc
    subst hc
    simp only [if_true] at hmm
    subst hmm
    by_cases h0 : ln = 0
    · subst h0
      exact ⟨[], .inl ⟨_, _, rfl, rfl⟩, fun r h => by cases h⟩
    · obtain ⟨b, off, sp⟩ := a
      have hs : sp = none := by simpa [Addr.add] using World.cell?_spot (hall 0 (by omega)).1
      subst hs
      have each : ∀ i, i < ln → ∃ x y : Int, V0 i = .int .i64 x ∧ V1 i = .int .i64 y ∧ (Lit.int .i64 x).wf = true ∧ (Lit.int .i64 y).wf = true := by
        intro i hi
        obtain ⟨_, _, t0, t1⟩ := hall i (by omega)
        obtain ⟨x, e0, _, wx⟩ := DataW.trod_int Tryz.underlying3 t0
        obtain ⟨y, e1, _, wy⟩ := DataW.trod_int Tryz.underlying3 t1
        simp only [List.cons.injEq, and_true] at e0 e1
        exact ⟨x, y, e0, e1, wx, wy⟩
      let f : Nat → Value → Int := fun _ u => match u with | .int _ x => x | _ => 0
      let l : List R := (List.range ln).map fun i => (f i (V0 i), f i (V1 i))
      have ll : l.length = ln := by simp [l]
      have la : ∀ i, i < ln → at_ l i = (f i (V0 i), f i (V1 i)) := by
        intro i hi
        unfold at_
        simp [l, List.getD, hi]
      refine ⟨l, .inr ⟨b, off, m, by rw [ll], by rw [ll]; exact hl, hm, fun i hi => ?_⟩, fun r hr => ?_⟩
      · rw [ll] at hi
        obtain ⟨x, y, e0, e1, _, _⟩ := each i hi
        obtain ⟨c0, c1, _, _⟩ := hall i (by omega)
        rw [la i hi]
        rw [Addr.add_lit] at c0 c1
        rw [e0] at c0
        rw [e1] at c1
        rw [e0, e1]
        exact ⟨c0, c1⟩
      · simp only [l, List.mem_map, List.mem_range] at hr
        obtain ⟨i, hi, rfl⟩ := hr
        obtain ⟨x, y, e0, e1, wx, wy⟩ := each i hi
        rw [e0, e1]
        exact ⟨(wf_bd wx).1, (wf_bd wx).2, (wf_bd wy).1, (wf_bd wy).2⟩
theorem cellsOfLeaf : Tryz.prog.cellsOf 47 = 4 := by kernel_rfl
end
end Go.Proofs.YtjdnejglapnbbaaGreatDoor

namespace Go.Proofs.YtjdnejglapnbbaaGreatDoor
open Go.RowKit Go.ChangeShapes Go.WideShapes Go.Deep
set_option linter.unusedVariables false
set_option linter.unusedSimpArgs false
instance instLF : Inhabited LF := ⟨⟨false, 0, [], []⟩⟩
def lat (l : List LF) (i : Nat) : LF := l.getD i ⟨false, 0, [], []⟩
theorem lat_mem {l : List LF} {k : Nat} (h : k < l.length) : lat l k ∈ l := by
  unfold lat
  rw [List.getD_eq_getElem?_getD, List.getElem?_eq_getElem h]
  exact List.getElem_mem h
theorem take_lat (l : List LF) (k : Nat) (h : k < l.length) : l.take (k + 1) = l.take k ++ [lat l k] := by
  rw [List.take_succ_eq_append_getElem h]
  unfold lat
  simp [List.getD, h]
/-- a leaf's four cells -/
def LeafCells (w : World) (b o : Nat) (f : LF) : Prop := ∃ va vb, w.cell? ⟨b, o, none⟩ = some (.bool f.sp) ∧ w.cell? ⟨b, o + 1, none⟩ = some (.int .i64 f.u) ∧ w.cell? ⟨b, o + 2, none⟩ = some va ∧ w.cell? ⟨b, o + 3, none⟩ = some vb ∧ RunsAt w va f.a ∧ RunsAt w vb f.b
theorem LeafCells.kp {w w' : World} {b o : Nat} {f : LF} (h : LeafCells w b o f) (k : Kp w w') : LeafCells w' b o f := by
  obtain ⟨va, vb, c0, c1, c2, c3, ra, rb⟩ := h
  exact ⟨va, vb, cell_up k c0, cell_up k c1, cell_up k c2, cell_up k c3, ra.kp k, rb.kp k⟩
def LeavesAt (w : World) (v : Value) (l : List LF) : Prop :=
  (∃ ad c, v = .slice ad 0 c ∧ l = []) ∨
  ∃ b off cap, v = .slice (some ⟨b, off, none⟩) l.length cap ∧ l.length ≤ cap ∧ cap ≤ maxLen ∧ ∀ i, i < l.length → LeafCells w b (off + i * 4) (lat l i)
theorem LeavesAt.slice {w : World} {v : Value} {l : List LF} (h : LeavesAt w v l) : ∃ ad c, v = .slice ad l.length c := by
  rcases h with ⟨ad, c, rfl, rfl⟩ | ⟨b, off, cap, rfl, _⟩
  · exact ⟨ad, c, rfl⟩
  · exact ⟨_, cap, rfl⟩
theorem LeavesAt.kp {w w' : World} {v : Value} {l : List LF} (h : LeavesAt w v l) (k : Kp w w') : LeavesAt w' v l := by
  rcases h with h | ⟨b, off, cap, e, hc, hm, hx⟩
  · exact .inl h
  · exact .inr ⟨b, off, cap, e, hc, hm, fun i hi => (hx i hi).kp k⟩
theorem LeavesAt.len {w : World} {v : Value} {l : List LF} (h : LeavesAt w v l) : l.length ≤ maxLen := by
  rcases h with ⟨_, _, _, rfl⟩ | ⟨b, off, cap, e, hc, hm, hx⟩
  · simp
  · omega
/-- numbers that a machine has -/
def LeafG (f : LF) : Prop := I64R f.a ∧ I64R f.b ∧ -9223372036854775808 ≤ f.u ∧ f.u ≤ 9223372036854775807
section
variable {H : Type} {enc : TypeId × Value → H} {W : World} {v : Value} {d : DataW H} {p : List MemPlace} {base : Nat}
theorem cellsOfBool : Tryz.prog.cellsOf 4 = 1 := by kernel_rfl
theorem cellsOfRuns : Tryz.prog.cellsOf 38 = 1 := by kernel_rfl
set_option maxRecDepth 100000 in
theorem open_leaves (hv : Value.okWide Tryz.prog W .any base 22 v) (h : DataW.Trod enc Tryz.prog W 0 (fun _ => true) true 22 v d p) : ∃ l, LeavesAt W v l ∧ ∀ f ∈ l, LeafG f := by
  obtain ⟨ad, ln, cp, rfl⟩ := okWide_slice Tryz.underlying22 hv
  obtain ⟨fuel, hf⟩ := h
  rcases open_slice Tryz.underlying22 hf with ⟨hc, _⟩ | ⟨a, len, cap, m, k, D, Pl, hc, _, hl, hm, hmm, _, hall⟩
  · simp [Value.cells] at hc
    obtain ⟨rfl, rfl, rfl⟩ := hc
    exact ⟨[], .inl ⟨_, _, rfl, rfl⟩, fun r h => by cases h⟩
  · simp [Value.cells] at hc
    obtain ⟨rfl, rfl, rfl⟩ := hc
    simp only [if_true] at hmm
    subst hmm
    by_cases h0 : ln = 0
    · subst h0
      exact ⟨[], .inl ⟨_, _, rfl, rfl⟩, fun r h => by cases h⟩
    · have each : ∀ i, i < ln → ∃ f : LF, (∃ va vb, W.cell? (a.add (i * 4)) = some (.bool f.sp) ∧ W.cell? (a.add (i * 4 + 1)) = some (.int .i64 f.u) ∧ W.cell? (a.add (i * 4 + 2)) = some va ∧ W.cell? (a.add (i * 4 + 3)) = some vb ∧ RunsAt W va f.a ∧ RunsAt W vb f.b) ∧ LeafG f := by
        intro i hi
        obtain ⟨cs', h1, h2⟩ := hall i (by omega)
        rw [cellsOfLeaf] at h1
        obtain ⟨_, hlen, hcell⟩ := World.cells?_some h1
        obtain ⟨xs, k', hk, hxy, _, hxl, hf'⟩ := DataW.trod_struct Tryz.underlying47 h2
        match xs, hxl, cs', hlen with
        | [y0, y1, y2, y3], _, [v0, v1, v2, v3], _ =>
          have g0 := hf' 0 _ rfl
          have g1 := hf' 1 _ rfl
          have g2 := hf' 2 _ rfl
          have g3 := hf' 3 _ rfl
          simp [cellsOfInt, cellsOfBool, cellsOfRuns] at g0 g1 g2 g3
          have e0 := hcell 0 (by omega)
          have e1 := hcell 1 (by omega)
          have e2 := hcell 2 (by omega)
          have e3 := hcell 3 (by omega)
          rw [add_add] at e0 e1 e2 e3
          obtain ⟨x0, q0, _⟩ := DataW.trod_bool Tryz.underlying4 g0
          obtain ⟨x1, q1, _, w1⟩ := DataW.trod_int Tryz.underlying3 g1
          obtain ⟨la, ra, ia⟩ := runs_trod g2
          obtain ⟨lb, rb, ib⟩ := runs_trod g3
          simp only [List.cons.injEq, and_true] at q0 q1
          subst q0 q1
          exact ⟨⟨x0, x1, la, lb⟩, ⟨v2, v3, by simpa using e0, by simpa using e1, by simpa using e2, by simpa using e3, ra, rb⟩, ia, ib, (wf_bd w1).1, (wf_bd w1).2⟩
      obtain ⟨T, hT⟩ := choose_lt each
      obtain ⟨b, off, sp⟩ := a
      have hs : sp = none := by
        obtain ⟨⟨va, vb, c0, _⟩, _⟩ := hT 0 (by omega)
        simpa [Addr.add] using World.cell?_spot c0
      subst hs
      refine ⟨(List.range ln).map T, .inr ⟨b, off, m, by simp, by simpa using hl, hm, fun i hi => ?_⟩, fun t ht => ?_⟩
      · have hi' : i < ln := by simpa using hi
        have e : lat ((List.range ln).map T) i = T i := by unfold lat; simp [List.getD, hi']
        rw [e]
        obtain ⟨⟨va, vb, c0, c1, c2, c3, ra, rb⟩, _⟩ := hT i hi'
        rw [Addr.add_lit] at c0 c1 c2 c3
        exact ⟨va, vb, c0, c1, c2, c3, ra, rb⟩
      · simp only [List.mem_map, List.mem_range] at ht
        obtain ⟨i, hi, rfl⟩ := ht
        exact (hT i hi).2
end
end Go.Proofs.YtjdnejglapnbbaaGreatDoor
