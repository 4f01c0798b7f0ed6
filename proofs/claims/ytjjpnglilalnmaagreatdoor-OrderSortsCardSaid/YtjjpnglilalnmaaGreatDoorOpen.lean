/-
  What an argument that is a slice of runs, or of ints, reads as.
-/
import Derived.Test.YtjjpnglilalnmaaGreatDoor4C
import Derived.Deep.SlicePairs
import Derived.Deep.Slices
import Derived.WideShapes
import Derived.ChangeArms
import Derived.Carry
namespace Go.Proofs.YtjjpnglilalnmaaGreatDoor
open Go.RowKit Go.ChangeShapes Go.WideShapes Go.Deep
set_option linter.unusedVariables false
set_option linter.unusedSimpArgs false
section
variable {H : Type} {enc : TypeId × Value → H} {W : World} {v : Value} {d : DataW H} {p : List MemPlace} {base : Nat}
theorem cellsOfRun : Tryz.prog.cellsOf 70 = 2 := by kernel_rfl
theorem cellsOfInt : Tryz.prog.cellsOf 3 = 1 := by kernel_rfl
set_option maxRecDepth 100000 in
theorem open_runs (hv : Value.okWide Tryz.prog W .any base 49 v) (h : DataW.Trod enc Tryz.prog W 0 (fun _ => true) true 49 v d p) : ∃ l, RunsAt W v l ∧ I64R l := by
  obtain ⟨ad, ln, cp, rfl⟩ := okWide_slice Tryz.underlying49 hv
  obtain ⟨fuel, hf⟩ := h
  rcases open_slice_pairs Tryz.underlying49 Tryz.underlying70 cellsOfRun rfl rfl cellsOfInt cellsOfInt hf with ⟨hc, _⟩ | ⟨a, len, cap, m, k, V0, V1, D0, D1, P0, P1, hc, _, hl, hm, hmm, _, hall⟩
  · simp [Value.cells] at hc
    obtain ⟨rfl, rfl, rfl⟩ := hc
    exact ⟨[], .inl ⟨_, _, rfl, rfl⟩, fun r h => by cases h⟩
  · simp [Value.cells] at hc
    obtain ⟨rfl, rfl, rfl⟩ := hc
    simp only [if_true] at hmm
    subst hmm
    by_cases h0 : ln = 0
    · subst h0
      exact ⟨[], .inl ⟨_, _, rfl, rfl⟩, fun r h => by cases h⟩
    · obtain ⟨b, off, sp⟩ := a
      have hs : sp = none := by simpa [Addr.add] using World.cell?_spot (hall 0 (by omega)).1
      subst hs
      have each : ∀ i, i < ln → ∃ x y : Int, V0 i = .int .i64 x ∧ V1 i = .int .i64 y ∧ (Lit.int .i64 x).wf = true ∧ (Lit.int .i64 y).wf = true := by
        intro i hi
        obtain ⟨_, _, t0, t1⟩ := hall i (by omega)
        obtain ⟨x, e0, _, wx⟩ := DataW.trod_int Tryz.underlying3 t0
        obtain ⟨y, e1, _, wy⟩ := DataW.trod_int Tryz.underlying3 t1
        simp only [List.cons.injEq, and_true] at e0 e1
        exact ⟨x, y, e0, e1, wx, wy⟩
      let f : Nat → Value → Int := fun _ u => match u with | .int _ x => x | _ => 0
      let l : List R := (List.range ln).map fun i => (f i (V0 i), f i (V1 i))
      have ll : l.length = ln := by simp [l]
      have la : ∀ i, i < ln → at_ l i = (f i (V0 i), f i (V1 i)) := by
        intro i hi
        unfold at_
        simp [l, List.getD, hi]
      refine ⟨l, .inr ⟨b, off, m, by rw [ll], by rw [ll]; exact hl, hm, fun i hi => ?_⟩, fun r hr => ?_⟩
      · rw [ll] at hi
        obtain ⟨x, y, e0, e1, _, _⟩ := each i hi
        obtain ⟨c0, c1, _, _⟩ := hall i (by omega)
        rw [la i hi]
        rw [Addr.add_lit] at c0 c1
        rw [e0] at c0
        rw [e1] at c1
        rw [e0, e1]
        exact ⟨c0, c1⟩
      · simp only [l, List.mem_map, List.mem_range] at hr
        obtain ⟨i, hi, rfl⟩ := hr
        obtain ⟨x, y, e0, e1, wx, wy⟩ := each i hi
        rw [e0, e1]
        exact ⟨(wf_bd wx).1, (wf_bd wx).2, (wf_bd wy).1, (wf_bd wy).2⟩
set_option maxRecDepth 100000 in
theorem open_intl (hv : Value.okWide Tryz.prog W .any base 41 v) (h : DataW.Trod enc Tryz.prog W 0 (fun _ => true) true 41 v d p) : ∃ l, IntsAt W v l ∧ I64 l := by
  obtain ⟨ad, ln, cp, rfl⟩ := okWide_slice Tryz.underlying41 hv
  obtain ⟨fuel, hf⟩ := h
  rcases open_slice1 Tryz.underlying41 cellsOfInt hf with ⟨hc, _⟩ | ⟨a, len, cap, m, k, V, D, Pl, hc, _, hl, hm, hmm, _, hall⟩
  · simp [Value.cells] at hc
    obtain ⟨rfl, rfl, rfl⟩ := hc
    exact ⟨[], .inl ⟨_, _, rfl, rfl⟩, fun r h => by cases h⟩
  · simp [Value.cells] at hc
    obtain ⟨rfl, rfl, rfl⟩ := hc
    simp only [if_true] at hmm
    subst hmm
    by_cases h0 : ln = 0
    · subst h0
      exact ⟨[], .inl ⟨_, _, rfl, rfl⟩, fun r h => by cases h⟩
    · obtain ⟨b, off, sp⟩ := a
      have hs : sp = none := by simpa [Addr.add] using World.cell?_spot (hall 0 (by omega)).1
      subst hs
      have each : ∀ i, i < ln → ∃ x : Int, V i = .int .i64 x ∧ (Lit.int .i64 x).wf = true := by
        intro i hi
        obtain ⟨_, t0⟩ := hall i (by omega)
        obtain ⟨x, e0, _, wx⟩ := DataW.trod_int Tryz.underlying3 t0
        simp only [List.cons.injEq, and_true] at e0
        exact ⟨x, e0, wx⟩
      let f : Value → Int := fun u => match u with | .int _ x => x | _ => 0
      let l : List Int := (List.range ln).map fun i => f (V i)
      have ll : l.length = ln := by simp [l]
      have la : ∀ i, i < ln → l.getD i 0 = f (V i) := by
        intro i hi
        simp [l, List.getD, hi]
      refine ⟨l, .inr ⟨b, off, m, by rw [ll], by rw [ll]; exact hl, hm, fun i hi => ?_⟩, fun r hr => ?_⟩
      · rw [ll] at hi
        obtain ⟨x, e0, _⟩ := each i hi
        obtain ⟨c0, _⟩ := hall i (by omega)
        rw [la i hi]
        rw [Addr.add_lit] at c0
        rw [e0] at c0 ⊢
        exact c0
      · simp only [l, List.mem_map, List.mem_range] at hr
        obtain ⟨i, hi, rfl⟩ := hr
        obtain ⟨x, e0, wx⟩ := each i hi
        rw [e0]
        exact wf_bd wx
end
end Go.Proofs.YtjjpnglilalnmaaGreatDoor
