/-
  What an argument that is a slice of tokens reads as.
-/
import Derived.Test.YtgaadakhkjfbnaaLexC
import Derived.Test.YtgaadakhkjfbnaaOpen
namespace Go.Proofs.Ytgaadakhkjfbnaa
open Go.RowKit Go.ChangeShapes Go.WideShapes Go.Deep
set_option linter.unusedVariables false
set_option linter.unusedSimpArgs false
section
variable {H : Type} {enc : TypeId × Value → H} {W : World} {v : Value} {d : DataW H} {p : List MemPlace} {base : Nat}
theorem cellsOfTok : Try.prog.cellsOf 55 = 3 := by kernel_rfl
theorem cellsOfStr : Try.prog.cellsOf 9 = 1 := by kernel_rfl
theorem wf_u8 {a : Int} (h : (Lit.int .u8 a).wf = true) : 0 ≤ a ∧ a ≤ 255 := by
  simp only [Lit.wf, Bool.and_eq_true, decide_eq_true_eq] at h; exact h
set_option maxRecDepth 100000 in
theorem open_toks (hv : Value.okWide Try.prog W .any base 46 v) (h : DataW.Trod enc Try.prog W 0 (fun _ => true) true 46 v d p) : ∃ l, ToksAt W v l ∧ ∀ t ∈ l, (Lit.int .i64 t.1).wf = true := by
  obtain ⟨ad, ln, cp, rfl⟩ := okWide_slice Try.underlying46 hv
  obtain ⟨fuel, hf⟩ := h
  rcases open_slice Try.underlying46 hf with ⟨hc, _⟩ | ⟨a, len, cap, m, k, D, Pl, hc, _, hl, hm, hmm, _, hall⟩
  · simp [Value.cells] at hc
    obtain ⟨rfl, rfl, rfl⟩ := hc
    exact ⟨[], .inl ⟨_, _, rfl, rfl⟩, fun r h => by cases h⟩
  · simp [Value.cells] at hc
    obtain ⟨rfl, rfl, rfl⟩ := hc
    simp only [if_true] at hmm
    subst hmm
    by_cases h0 : ln = 0
    · subst h0
      exact ⟨[], .inl ⟨_, _, rfl, rfl⟩, fun r h => by cases h⟩
    · have each : ∀ i, i < ln → ∃ t : Tk, W.cell? (a.add (i * 3)) = some (.int .i64 t.1) ∧ W.cell? (a.add (i * 3 + 1)) = some (.int .i64 t.2.1) ∧ W.cell? (a.add (i * 3 + 2)) = some (.string (bs t.2.2)) ∧ (Lit.int .i64 t.1).wf = true := by
        intro i hi
        obtain ⟨cs', h1, h2⟩ := hall i (by omega)
        rw [cellsOfTok] at h1
        obtain ⟨_, hlen, hcell⟩ := World.cells?_some h1
        obtain ⟨xs, k', hk, hxy, _, hxl, hf'⟩ := DataW.trod_struct Try.underlying55 h2
        match xs, hxl, cs', hlen with
        | [y0, y1, y2], _, [v0, v1, v2], _ =>
          have g0 := hf' 0 _ rfl
          have g1 := hf' 1 _ rfl
          have g2 := hf' 2 _ rfl
          simp [cellsOfInt, cellsOfStr] at g0 g1 g2
          have e0 := hcell 0 (by omega)
          have e1 := hcell 1 (by omega)
          have e2 := hcell 2 (by omega)
          rw [add_add] at e0 e1 e2
          obtain ⟨x0, q0, _, w0⟩ := DataW.trod_int Try.underlying3 g0
          obtain ⟨x1, q1, _, w1⟩ := DataW.trod_int Try.underlying3 g1
          obtain ⟨x2, q2, _⟩ := DataW.trod_string Try.underlying9 g2
          simp only [List.cons.injEq, and_true] at q0 q1 q2
          subst q0 q1 q2
          exact ⟨(x0, x1, x2.data.toList), by simpa using e0, by simpa using e1, by rw [bs_list]; simpa using e2, w0⟩
      obtain ⟨T, hT⟩ := choose_lt each
      obtain ⟨b, off, sp⟩ := a
      have hs : sp = none := by simpa [Addr.add] using World.cell?_spot (hT 0 (by omega)).1
      subst hs
      refine ⟨(List.range ln).map T, .inr ⟨b, off, m, by simp, by simpa using hl, hm, fun i hi => ?_⟩, fun t ht => ?_⟩
      · have hi' : i < ln := by simpa using hi
        have e : tk ((List.range ln).map T) i = T i := by unfold tk; simp [List.getD, hi']
        rw [e]
        obtain ⟨c0, c1, c2, _⟩ := hT i hi'
        rw [Addr.add_lit] at c0 c1 c2
        exact ⟨c0, c1, c2⟩
      · simp only [List.mem_map, List.mem_range] at ht
        obtain ⟨i, hi, rfl⟩ := ht
        exact (hT i hi).2.2.2
end
end Go.Proofs.Ytgaadakhkjfbnaa
