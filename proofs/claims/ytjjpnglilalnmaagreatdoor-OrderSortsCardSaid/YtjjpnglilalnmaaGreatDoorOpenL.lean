/-
  What an argument that is a leaf reads as.
-/
import Derived.Test.YtjjpnglilalnmaaGreatDoorOpen
import Derived.Test.YtjjpnglilalnmaaGreatDoorGLeafA
import Derived.Lib.SmallJoins
namespace Go.Proofs.YtjjpnglilalnmaaGreatDoor
open Go.RowKit Go.ChangeShapes Go.WideShapes Go.Deep Go.Joins
set_option linter.unusedVariables false
set_option linter.unusedSimpArgs false
section
variable {H : Type} {enc : TypeId × Value → H} {W : World} {v : Value} {d : DataW H} {p : List MemPlace} {base : Nat}
set_option maxRecDepth 100000 in
theorem runs_trod {fuel : Nat} {y : DataW H × List MemPlace} (hf : DataW.trod enc Tryz.prog W 0 (fun _ => true) true fuel 49 [v] = some y) : ∃ l, RunsAt W v l ∧ I64R l := by
  rcases open_slice_pairs Tryz.underlying49 Tryz.underlying70 cellsOfRun rfl rfl cellsOfInt cellsOfInt hf with ⟨hc, _⟩ | ⟨a, ln, cp, m, k, V0, V1, D0, D1, P0, P1, hc, _, hl, hm, hmm, _, hall⟩
  · simp at hc
    subst hc
    exact ⟨[], .inl ⟨_, _, rfl, rfl⟩, fun r h => by cases h⟩
  · simp at hc
    subst hc
    simp only [if_true] at hmm
    subst hmm
    by_cases h0 : ln = 0
    · subst h0
      exact ⟨[], .inl ⟨_, _, rfl, rfl⟩, fun r h => by cases h⟩
    · obtain ⟨b, off, sp⟩ := a
      have hs : sp = none := by simpa [Addr.add] using World.cell?_spot (hall 0 (by omega)).1
      subst hs
      have each : ∀ i, i < ln → ∃ x y : Int, V0 i = .int .i64 x ∧ V1 i = .int .i64 y ∧ (Lit.int .i64 x).wf = true ∧ (Lit.int .i64 y).wf = true := by
        intro i hi
        obtain ⟨_, _, t0, t1⟩ := hall i (by omega)
        obtain ⟨x, e0, _, wx⟩ := DataW.trod_int Tryz.underlying3 t0
        obtain ⟨y, e1, _, wy⟩ := DataW.trod_int Tryz.underlying3 t1
        simp only [List.cons.injEq, and_true] at e0 e1
        exact ⟨x, y, e0, e1, wx, wy⟩
      let f : Nat → Value → Int := fun _ u => match u with | .int _ x => x | _ => 0
      let l : List R := (List.range ln).map fun i => (f i (V0 i), f i (V1 i))
      have ll : l.length = ln := by simp [l]
      have la : ∀ i, i < ln → at_ l i = (f i (V0 i), f i (V1 i)) := by
        intro i hi
        unfold at_
        simp [l, List.getD, hi]
      refine ⟨l, .inr ⟨b, off, m, by rw [ll], by rw [ll]; exact hl, hm, fun i hi => ?_⟩, fun r hr => ?_⟩
      · rw [ll] at hi
        obtain ⟨x, y, e0, e1, _, _⟩ := each i hi
        obtain ⟨c0, c1, _, _⟩ := hall i (by omega)
        rw [la i hi]
        rw [Addr.add_lit] at c0 c1
        rw [e0] at c0
        rw [e1] at c1
        rw [e0, e1]
        exact ⟨c0, c1⟩
      · simp only [l, List.mem_map, List.mem_range] at hr
        obtain ⟨i, hi, rfl⟩ := hr
        obtain ⟨x, y, e0, e1, wx, wy⟩ := each i hi
        rw [e0, e1]
        exact ⟨(wf_bd wx).1, (wf_bd wx).2, (wf_bd wy).1, (wf_bd wy).2⟩
theorem cellsOfLeaf : Tryz.prog.cellsOf 51 = 4 := by kernel_rfl
set_option maxRecDepth 100000 in
theorem open_leaf (hv : Value.okWide Tryz.prog W .any base 51 v) (h : DataW.Trod enc Tryz.prog W 0 (fun _ => true) true 51 v d p) : ∃ (f : LF) (va vb : Value), v = leafV f va vb ∧ RunsAt W va f.a ∧ RunsAt W vb f.b ∧ I64R f.a ∧ I64R f.b ∧ -9223372036854775808 ≤ f.u ∧ f.u ≤ 9223372036854775807 := by
  obtain ⟨v0, v1, v2, v3, y0, y1, y2, y3, n, rfl, _, _, t0, t1, t2, t3⟩ := open_agg4 Tryz.underlying51 (by kernel_rfl) cellsOfLeaf hv h
  obtain ⟨b0, e0, _⟩ := DataW.trod_bool Tryz.underlying4 t0
  obtain ⟨u, e1, _, w1⟩ := DataW.trod_int Tryz.underlying3 t1
  obtain ⟨a, ra, ia⟩ := runs_trod t2
  obtain ⟨b, rb, ib⟩ := runs_trod t3
  simp only [List.cons.injEq, and_true] at e0 e1
  subst e0 e1
  exact ⟨⟨b0, u, a, b⟩, v2, v3, rfl, ra, rb, ia, ib, (wf_bd w1).1, (wf_bd w1).2⟩
end
end Go.Proofs.YtjjpnglilalnmaaGreatDoor
