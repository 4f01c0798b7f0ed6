/-
  What the rows' lists of package-level variables give: the tables of layers 3 and 8; what an argument that is a point reads as.
-/
import Derived.Test.YtinpglfclbnhlaaGreatDoorGPtA
import Derived.Test.YtinpglfclbnhlaaGreatDoorRows
import Derived.Stop.LaidErr
import Derived.Lib.LaidTab
import Derived.Lib.SmallJoins
namespace Go.Proofs.YtinpglfclbnhlaaGreatDoor
open Go.RowKit Go.Lib Go.ChangeShapes Go.WideShapes Go.Deep Go.Joins
set_option linter.unusedVariables false
set_option linter.unusedSimpArgs false
theorem cells_i1 : Tryz.prog.cellsOf 3 = 1 := by kernel_rfl
theorem cells_s1 : Tryz.prog.cellsOf 9 = 1 := by kernel_rfl
theorem cells_m13 : Tryz.prog.cellsOf 123 = 13 := by kernel_rfl
theorem cells_u6 : Tryz.prog.cellsOf 56 = 6 := by kernel_rfl
theorem cells_sh : Tryz.prog.cellsOf 39 = 5 := by kernel_rfl
theorem cells_sh6 : Tryz.prog.cellsOf 40 = 30 := by kernel_rfl
theorem cells_pt : Tryz.prog.cellsOf 23 = 4 := by kernel_rfl
theorem gt_m13 : (Tryz.prog.globals[3]?).map (·.type) = some 123 := by kernel_rfl
theorem gt_u6 : (Tryz.prog.globals[2]?).map (·.type) = some 56 := by kernel_rfl
theorem gt_r6 : (Tryz.prog.globals[1]?).map (·.type) = some 56 := by kernel_rfl
theorem gt_s6 : (Tryz.prog.globals[0]?).map (·.type) = some 40 := by kernel_rfl
def shpD {H : Type} (a b c d : Int) (s : List UInt8) : DataW H := .agg [.lit (.int .i64 a), .lit (.int .i64 b), .lit (.int .i64 c), .lit (.int .i64 d), .lit (.string s)]
def shpsD {H : Type} : DataW H := .agg [shpD 4 2 2 12 [], shpD 4 2 0 12 [], shpD 4 1 0 4 [], shpD 4 0 0 0 [], shpD 3 0 0 0 [100], shpD 2 0 0 0 [99]]
section
variable {H : Type} {enc : TypeId × Value → H} {w : World} {base : Nat} {sp : Nat → Bool} {held : Bool} {fuel : Nat}
set_option maxRecDepth 100000 in
theorem shape_row {L : List Value} {y : DataW H × List MemPlace} {a b c d : Int} {s : List UInt8} (h : DataW.trod enc Tryz.prog w base sp held fuel 39 L = some y) (hy : y.1 = shpD a b c d s) :
    L = [.int .i64 a, .int .i64 b, .int .i64 c, .int .i64 d, .string ⟨s.toArray⟩] := by
  obtain ⟨xs, k', hk, hxy, hlen, hxl, hf'⟩ := DataW.trod_struct Tryz.underlying39 h
  rw [cells_sh] at hlen
  match xs, hxl, L, hlen with
  | [y0, y1, y2, y3, y4], _, [v0, v1, v2, v3, v4], _ =>
    have g0 := hf' 0 _ rfl
    have g1 := hf' 1 _ rfl
    have g2 := hf' 2 _ rfl
    have g3 := hf' 3 _ rfl
    have g4 := hf' 4 _ rfl
    simp [cells_i1, cells_s1] at g0 g1 g2 g3 g4
    obtain ⟨x0, q0, e0, _⟩ := DataW.trod_int Tryz.underlying3 g0
    obtain ⟨x1, q1, e1, _⟩ := DataW.trod_int Tryz.underlying3 g1
    obtain ⟨x2, q2, e2, _⟩ := DataW.trod_int Tryz.underlying3 g2
    obtain ⟨x3, q3, e3, _⟩ := DataW.trod_int Tryz.underlying3 g3
    obtain ⟨x4, q4, e4, _⟩ := DataW.trod_string Tryz.underlying9 g4
    subst e0 e1 e2 e3 e4
    rw [hxy] at hy
    simp only [List.map_cons, List.map_nil, shpD, DataW.agg.injEq, List.cons.injEq, DataW.lit.injEq, Lit.int.injEq, Lit.string.injEq, true_and, and_true] at hy
    simp only [List.cons.injEq, and_true] at q0 q1 q2 q3 q4
    obtain ⟨r0, r1, r2, r3, r4⟩ := hy
    rw [q0, q1, q2, q3, q4, r0, r1, r2, r3, ← r4]
set_option maxRecDepth 100000 in
theorem shapes_cells {cs : List Value} {p : List MemPlace} (h : DataW.trod enc Tryz.prog w base sp held fuel 40 cs = some (shpsD, p)) : cs = shpCells := by
  cases fuel with
  | zero => simp [DataW.trod] at h
  | succ fuel =>
    simp only [DataW.trod, Tryz.underlying40, cells_sh, cells_sh6] at h
    split at h
    · rename_i hl
      obtain ⟨xs, hm, hx⟩ := Option.map_eq_some_iff.1 h
      have hxs := congrArg Prod.fst hx
      simp only [shpsD, DataW.agg.injEq] at hxs
      have hxl : xs.length = 6 := by simpa using mapM_length hm
      match xs, hxl with
      | [y0, y1, y2, y3, y4, y5], _ =>
        simp only [List.map_cons, List.map_nil, List.cons.injEq, and_true] at hxs
        obtain ⟨h0, h1, h2, h3, h4, h5⟩ := hxs
        have at_ : ∀ i, i < 6 → ∃ b, [y0, y1, y2, y3, y4, y5][i]? = some b ∧ DataW.trod enc Tryz.prog w base sp held fuel 39 ((cs.drop (i * 5)).take 5) = some b := fun i hi => mapM_at hm i i (by simp [hi])
        obtain ⟨z0, b0, t0⟩ := at_ 0 (by decide)
        obtain ⟨z1, b1, t1⟩ := at_ 1 (by decide)
        obtain ⟨z2, b2, t2⟩ := at_ 2 (by decide)
        obtain ⟨z3, b3, t3⟩ := at_ 3 (by decide)
        obtain ⟨z4, b4, t4⟩ := at_ 4 (by decide)
        obtain ⟨z5, b5, t5⟩ := at_ 5 (by decide)
        simp only [List.getElem?_cons_zero, List.getElem?_cons_succ, Option.some.injEq] at b0 b1 b2 b3 b4 b5
        subst b0 b1 b2 b3 b4 b5
        have r0 := shape_row t0 h0
        have r1 := shape_row t1 h1
        have r2 := shape_row t2 h2
        have r3 := shape_row t3 h3
        have r4 := shape_row t4 h4
        have r5 := shape_row t5 h5
        have e : cs = (cs.drop (0 * 5)).take 5 ++ ((cs.drop (1 * 5)).take 5 ++ ((cs.drop (2 * 5)).take 5 ++ ((cs.drop (3 * 5)).take 5 ++ ((cs.drop (4 * 5)).take 5 ++ (cs.drop (5 * 5)).take 5)))) := by
          have s : ∀ n, cs.drop n = (cs.drop n).take 5 ++ cs.drop (n + 5) := fun n => by
            rw [← List.drop_drop, List.take_append_drop]
          have l : (cs.drop 25).take 5 = cs.drop 25 := List.take_of_length_le (by rw [List.length_drop]; omega)
          have s0 := s 0
          have s5 := s 5
          have s10 := s 10
          have s15 := s 15
          have s20 := s 20
          simp only [Nat.zero_add, Nat.reduceAdd, Nat.reduceMul, List.drop_zero] at *
          rw [l, ← s20, ← s15, ← s10, ← s5, ← s0]
        rw [e, r0, r1, r2, r3, r4, r5]
        rfl
    · cases h
end
theorem shapes_of_head {W : World} {rest : List (String × DataW Unit)} (h : laidMet Tryz.prog (("lustrum/point.shapes", shpsD) :: rest) W) : TabSH W := by
  obtain ⟨ps, ⟨g', t', cs, fuel, p, q, hg', ht', hvar, hd, _, _⟩, _⟩ := h
  obtain rfl := Option.some.inj (gSH.symm.trans hg')
  obtain rfl := Option.some.inj (gt_s6.symm.trans ht')
  unfold TabSH
  rw [hvar, ← shapes_cells hd]
theorem tabs_of {W : World} (h : laidMetH Tryz.prog [("lustrum/civil.monthDays", Rows.laid_lustrum_civil_monthDays), ("lustrum/unit.counts", Rows.laid_lustrum_unit_counts), ("lustrum/point.shapes", Rows.laid_lustrum_point_shapes), ("lustrum/point.radii", Rows.laid_lustrum_point_radii)] W) : Tabs8 W := by
  have h1 : laidMet Tryz.prog [("lustrum/civil.monthDays", Lib.tabData .i64 [0, 31, 28, 31, 30, 31, 30, 31, 31, 30, 31, 30, 31]), ("lustrum/unit.counts", Lib.tabData .i64 [3652425, 120000, 40000, 10000, 1000, 100]), ("lustrum/point.shapes", shpsD), ("lustrum/point.radii", Lib.tabData .i64 [3, 1, 1, 2, 1, 1])] W := h
  exact ⟨⟨Lib.tabIs_of_head gMD gt_m13 Tryz.underlying123 Tryz.underlying3 cells_i1 cells_m13 h1, Lib.tabIs_of_head gUC gt_u6 Tryz.underlying56 Tryz.underlying3 cells_i1 cells_u6 h1.tail⟩, shapes_of_head h1.tail.tail, Lib.tabIs_of_head gRD gt_r6 Tryz.underlying56 Tryz.underlying3 cells_i1 cells_u6 h1.tail.tail.tail⟩
theorem tabs_of1 {W : World} (h : laidMetH Tryz.prog [("lustrum/point.shapes", Rows.laid_lustrum_point_shapes)] W) : TabSH W := by
  have h1 : laidMet Tryz.prog [("lustrum/point.shapes", shpsD)] W := h
  exact shapes_of_head h1
section
variable {H : Type} {enc : TypeId × Value → H} {W : World} {v : Value} {d : DataW H} {p : List MemPlace} {base : Nat}
set_option maxRecDepth 100000 in
theorem open_point (hv : Value.okWide Tryz.prog W .any base 23 v) (h : DataW.Trod enc Tryz.prog W 0 (fun _ => true) true 23 v d p) : ∃ q : PT, v = ptV q ∧ -9223372036854775808 ≤ q.k ∧ q.k ≤ 9223372036854775807 ∧ q.y.size ≤ maxLen ∧ q.m.size ≤ maxLen ∧ q.d.size ≤ maxLen := by
  obtain ⟨v0, v1, v2, v3, y0, y1, y2, y3, n, rfl, _, _, t0, t1, t2, t3⟩ := open_agg4 Tryz.underlying23 (by kernel_rfl) cells_pt hv h
  obtain ⟨k, e0, _, w0⟩ := DataW.trod_int Tryz.underlying3 t0
  obtain ⟨s1, e1, _, w1⟩ := DataW.trod_string Tryz.underlying9 t1
  obtain ⟨s2, e2, _, w2⟩ := DataW.trod_string Tryz.underlying9 t2
  obtain ⟨s3, e3, _, w3⟩ := DataW.trod_string Tryz.underlying9 t3
  simp only [List.cons.injEq, and_true] at e0 e1 e2 e3
  subst e0 e1 e2 e3
  exact ⟨⟨k, s1, s2, s3⟩, rfl, (wf_bd w0).1, (wf_bd w0).2, w1, w2, w3⟩
end
end Go.Proofs.YtinpglfclbnhlaaGreatDoor
