/-
  Layer 10: TreeMade: plain facts; where it lets go.
-/
import Derived.Test.YtjiikianmjmgcaaDoorGTrB
import Derived.Test.YtjiikianmjmgcaaDoorNrow
import Derived.Test.YtjiikianmjmgcaaDoorGLeafA
namespace Go.Proofs.YtjiikianmjmgcaaDoor
open Go.RowKit
set_option linter.unusedVariables false
set_option linter.unusedSimpArgs false
theorem row4 {w : World} {b : Nat} {c0 c1 c2 c3 : Value} {t : TypeId} {fr : Nat × Nat} (hg : w.heap[b]? = some (.cells #[c0, c1, c2, c3] t fr)) :
    w.cell? ⟨b, 0, none⟩ = some c0 ∧ w.cell? ⟨b, 1, none⟩ = some c1 ∧ w.cell? ⟨b, 2, none⟩ = some c2 ∧ w.cell? ⟨b, 3, none⟩ = some c3 := by
  refine ⟨?_, ?_, ?_, ?_⟩ <;> simp [World.cell?, hg]
theorem set8_heap {w : World} {B : Nat} {t : TypeId} {y0 y1 y2 y3 y4 y5 y6 y7 : Value} {fr : Nat × Nat} (hB : w.heap[B]? = some (.cells #[y0, y1, y2, y3, y4, y5, y6, y7] t fr)) (x0 x1 x2 x3 x4 x5 x6 x7 : Value) :
    ((((((((w.setCell ⟨B, 0, none⟩ x0).setCell ⟨B, 1, none⟩ x1).setCell ⟨B, 2, none⟩ x2).setCell ⟨B, 3, none⟩ x3).setCell ⟨B, 4, none⟩ x4).setCell ⟨B, 5, none⟩ x5).setCell ⟨B, 6, none⟩ x6).setCell ⟨B, 7, none⟩ x7).heap[B]? = some (.cells #[x0, x1, x2, x3, x4, x5, x6, x7] t fr)  := by
  simp [World.setCell, Array.getElem?_modify, hB]
theorem set8_kp {w w1 : World} (k : Kp w w1) (B : Nat) (hB : w.heap.size ≤ B) (x0 x1 x2 x3 x4 x5 x6 x7 : Value) :
    Kp w ((((((((w1.setCell ⟨B, 0, none⟩ x0).setCell ⟨B, 1, none⟩ x1).setCell ⟨B, 2, none⟩ x2).setCell ⟨B, 3, none⟩ x3).setCell ⟨B, 4, none⟩ x4).setCell ⟨B, 5, none⟩ x5).setCell ⟨B, 6, none⟩ x6).setCell ⟨B, 7, none⟩ x7) :=
  kp_setCell (kp_setCell (kp_setCell (kp_setCell (kp_setCell (kp_setCell (kp_setCell (kp_setCell k hB 0 x0) hB 1 x1) hB 2 x2) hB 3 x3) hB 4 x4) hB 5 x5) hB 6 x6) hB 7 x7
theorem bare_pt0 (k : Int) (l : List ND) : bareN (.mk k pt0 false false l) = true := rfl
theorem end_X (p : PT) (a t : Bool) : endN saneP (.mk 0 p a t []) = saneP p := by simp [endN, ND.k, ND.p, ND.l]
theorem sane_X (p : PT) (a t : Bool) : saneN saneP (.mk 0 p a t []) = saneP p := by
  have e : rightN saneP (.mk 0 p a t []) = saneP p := by simp [rightN, end_X]
  unfold saneN
  rw [e]
  simp [cntN, cntL, depN, depL]
theorem sane_S (p : PT) (a t : Bool) (x : ND) : saneN saneP (.mk 1 pt0 false false [.mk 0 p a t [], x]) = (saneP p && endN saneP x) := by
  have e : rightN saneP (.mk 1 pt0 false false [.mk 0 p a t [], x]) = (saneP p && endN saneP x) := by simp [rightN, bare_pt0, twoN, end_X]
  unfold saneN
  rw [e]
  cases h : (saneP p && endN saneP x) with
  | false => simp
  | true =>
    rw [Bool.and_eq_true] at h
    have hx := endN_leaf h.2
    have c : cntN x = 1 := by rw [cntN_mk, hx]; rfl
    have d : depN x = 0 := by
      have := h.2
      unfold endN at this
      rw [depN_mk, hx]
      by_cases k2 : x.k = 2
      · rw [k2] at this; simp at this
      · simp [depL, k2]
    simp [cntN, cntL, depN, depL, c, d]
theorem cnt_S (p : PT) (a t : Bool) (x : ND) : cntN (.mk 1 pt0 false false [.mk 0 p a t [], x]) = cntN x + 2 := by simp [cntN, cntL]; omega
theorem sane_K {l : List ND} : saneN saneP (.mk 2 pt0 false false l) = (((!l.isEmpty) && l.all (saneN saneP)) && (decide (cntN (.mk 2 pt0 false false l) ≤ 64) && decide (depN (.mk 2 pt0 false false l) ≤ 8))) := by
  have e : rightN saneP (.mk 2 pt0 false false l) = (!l.isEmpty && l.all (rightN saneP)) := by simp [rightN, bare_pt0, rightL_all]
  unfold saneN
  rw [e, Bool.eq_iff_iff]
  simp only [Bool.and_eq_true, decide_eq_true_eq, List.all_eq_true]
  constructor
  · rintro ⟨h1, h2, h3, h4⟩
    refine ⟨⟨h3, fun x hx => ⟨?_, ?_, h4 x hx⟩⟩, h1, h2⟩
    · have := cnt_mem hx; simp only [cntN] at h1; omega
    · obtain ⟨i, hi, rfl⟩ := List.getElem_of_mem hx
      have := dep_at hi
      have en : nth l i = l[i] := by unfold nth; simp [List.getD, hi]
      rw [en] at this
      simp only [depN] at h2
      omega
  · rintro ⟨⟨h3, h4⟩, h1, h2⟩
    exact ⟨h1, h2, h3, fun x hx => (h4 x hx).2.2⟩
theorem pair_nodes {w : World} {bs : Nat} {n m : ND} {v u : Value} {t : TypeId} (hg : w.heap[bs]? = some (.cells #[.int .i64 n.k, .int .i64 n.p.k, .string n.p.y, .string n.p.m, .string n.p.d, .bool n.a, .bool n.t, v, .int .i64 m.k, .int .i64 m.p.k, .string m.p.y, .string m.p.m, .string m.p.d, .bool m.a, .bool m.t, u] t (0, 0)))
    (hv : NodesAt w v n.l) (hu : NodesAt w u m.l) : NodesAt w (.slice (some ⟨bs, 0, none⟩) 2 2) [n, m] := by
  refine NodesAt.row [n, m] bs 0 2 (fun i => if i = 0 then v else u) (by simp) (by simp) (by decide) ?_ ?_
  · intro i hi
    simp only [List.length_cons, List.length_nil] at hi
    match i, hi with
    | 0, _ => refine ⟨?_, ?_, ?_, ?_, ?_, ?_, ?_, ?_⟩ <;> simp [World.cell?, hg, nth]
    | 1, _ => refine ⟨?_, ?_, ?_, ?_, ?_, ?_, ?_, ?_⟩ <;> simp [World.cell?, hg, nth]
  · intro i hi
    simp only [List.length_cons, List.length_nil] at hi
    match i, hi with
    | 0, _ => exact hv
    | 1, _ => exact hu
set_option maxHeartbeats 4000000 in
set_option maxRecDepth 100000 in
theorem between2_any (n m : ND) (v u : Value) (w : World) (hv : ∃ ad c, v = .slice ad n.l.length c) (hu : ∃ ad c, u = .slice ad m.l.length c) : Calls Tryd.prog 37 #[ndV n v, ndV m u] w fun e w' => ∃ bs : Nat, e = .returned (.agg #[.int .i64 1, .int .i64 0, .string ⟨#[]⟩, .string ⟨#[]⟩, .string ⟨#[]⟩, .bool false, .bool false, .slice (some ⟨bs, 0, none⟩) 2 2]) ∧ w.heap.size ≤ bs ∧
    w'.heap[bs]? = some (.cells #[.int .i64 n.k, .int .i64 n.p.k, .string n.p.y, .string n.p.m, .string n.p.d, .bool n.a, .bool n.t, v, .int .i64 m.k, .int .i64 m.p.k, .string m.p.y, .string m.p.m, .string m.p.d, .bool m.a, .bool m.t, u] 46 (0, 0)) ∧ Kp w w' := by
  obtain ⟨k, pk, y, q, d, a, t, l, rfl⟩ := nd_dest n
  obtain ⟨k', pk', y', q', d', a', t', l', rfl⟩ := nd_dest m
  unfold ndV
  simp only [ND.k, ND.p, ND.a, ND.t]
  go_enter Tryd.func37, Tryd.ntmps37
  go_wp2
  obtain ⟨W2, hW2⟩ : ∃ W, W = (w.alloc (.cells #[.int .i64 k, .int .i64 pk, .string y, .string q, .string d, .bool a, .bool t, v] 46)).alloc (.cells #[.int .i64 k', .int .i64 pk', .string y', .string q', .string d', .bool a', .bool t', u] 46) := ⟨_, rfl⟩
  have kW : Kp w W2 := by rw [hW2]; exact (Kp.alloc _ _).trans (Kp.alloc _ _)
  have zW : W2.heap.size = w.heap.size + 1 + 1 := by rw [hW2]; simp
  rw [← hW2]
  obtain ⟨W3, hW3⟩ : ∃ W, W = W2.alloc (.cells #[.int .i64 1, .int .i64 0, .string ⟨#[]⟩, .string ⟨#[]⟩, .string ⟨#[]⟩, .bool false, .bool false, .slice (some ⟨w.heap.size + 1 + 1 + 1, 0, none⟩) 2 2] 46) := ⟨_, rfl⟩
  have kW3 : Kp W2 W3 := by rw [hW3]; exact Kp.alloc _ _
  have zW3 : W3.heap.size = w.heap.size + 1 + 1 + 1 := by rw [hW3]; simp [zW]
  have g3 : W3.heap[w.heap.size + 1 + 1]? = some (.cells #[.int .i64 1, .int .i64 0, .string ⟨#[]⟩, .string ⟨#[]⟩, .string ⟨#[]⟩, .bool false, .bool false, .slice (some ⟨w.heap.size + 1 + 1 + 1, 0, none⟩) 2 2] 46 (0, 0)) := by rw [hW3]; exact heap_at _ _ _ zW
  rw [← hW3]
  obtain ⟨W4, hW4⟩ : ∃ W, W = W3.alloc (.cells #[.int .i64 k, .int .i64 pk, .string y, .string q, .string d, .bool a, .bool t, v, .int .i64 k', .int .i64 pk', .string y', .string q', .string d', .bool a', .bool t', u] 46) := ⟨_, rfl⟩
  have kW4 : Kp W3 W4 := by rw [hW4]; exact Kp.alloc _ _
  have g4 : W4.heap[w.heap.size + 1 + 1 + 1]? = some (.cells #[.int .i64 k, .int .i64 pk, .string y, .string q, .string d, .bool a, .bool t, v, .int .i64 k', .int .i64 pk', .string y', .string q', .string d', .bool a', .bool t', u] 46 (0, 0)) := by rw [hW4]; exact heap_at _ _ _ zW3
  obtain ⟨x0, x1, x2, x3, x4, x5, x6, x7⟩ := row8 (heap_block kW4 g3)
  rw [← hW4]
  have KK : Kp w W4 := kW.trans (kW3.trans kW4)
  exact bodyPost_ret (v := .agg #[.int .i64 1, .int .i64 0, .string ⟨#[]⟩, .string ⟨#[]⟩, .string ⟨#[]⟩, .bool false, .bool false, .slice (some ⟨w.heap.size + 1 + 1 + 1, 0, none⟩) 2 2]) (by simp [results, Tryd.results37, go_sem, x0, x1, x2, x3, x4, x5, x6, x7]) rfl ⟨_, rfl, by omega, g4, KK⟩
theorem row16 {w : World} {b : Nat} {c0 c1 c2 c3 c4 c5 c6 c7 c8 c9 c10 c11 c12 c13 c14 c15 : Value} {t : TypeId} {fr : Nat × Nat} (hg : w.heap[b]? = some (.cells #[c0, c1, c2, c3, c4, c5, c6, c7, c8, c9, c10, c11, c12, c13, c14, c15] t fr)) :
    w.cell? ⟨b, 0, none⟩ = some c0 ∧ w.cell? ⟨b, 1, none⟩ = some c1 ∧ w.cell? ⟨b, 2, none⟩ = some c2 ∧ w.cell? ⟨b, 3, none⟩ = some c3 ∧ w.cell? ⟨b, 4, none⟩ = some c4 ∧ w.cell? ⟨b, 5, none⟩ = some c5 ∧ w.cell? ⟨b, 6, none⟩ = some c6 ∧ w.cell? ⟨b, 7, none⟩ = some c7 ∧
    w.cell? ⟨b, 8, none⟩ = some c8 ∧ w.cell? ⟨b, 9, none⟩ = some c9 ∧ w.cell? ⟨b, 10, none⟩ = some c10 ∧ w.cell? ⟨b, 11, none⟩ = some c11 ∧ w.cell? ⟨b, 12, none⟩ = some c12 ∧ w.cell? ⟨b, 13, none⟩ = some c13 ∧ w.cell? ⟨b, 14, none⟩ = some c14 ∧ w.cell? ⟨b, 15, none⟩ = some c15 := by
  refine ⟨?_, ?_, ?_, ?_, ?_, ?_, ?_, ?_, ?_, ?_, ?_, ?_, ?_, ?_, ?_, ?_⟩ <;> simp [World.cell?, hg]
theorem few_c120 {n : ND} (h : fewN n = true) : cntN n ≤ 120 := by
  unfold fewN at h
  simp only [Bool.and_eq_true, decide_eq_true_eq] at h
  exact h.1
abbrev mdP0 : Oper := { dst := some 48, op := Go.Op.fieldAddr 46 (Go.Operand.tmp 10) 0, type := 0, pos := "law.go:34", after := #[], guard := none }
abbrev mdP1 : Oper := { dst := some 49, op := Go.Op.load 3 (Go.Operand.tmp 48), type := 3, pos := "law.go:34", after := #[{ on := 0, ground := Go.Ground.data }], guard := none }
abbrev mdP2 : Oper := { dst := some 50, op := Go.Op.binOp Go.BinOp.neq 3 (Go.Operand.tmp 49) (Go.Operand.const (Go.Value.int Go.IntKind.i64 0)) 3, type := 4, pos := "law.go:34", after := #[{ on := 1, ground := Go.Ground.data }], guard := none }
abbrev mdP3 : Oper := { dst := some 51, op := Go.Op.move (Go.Operand.tmp 50), type := 4, pos := "law.go:34", after := #[{ on := 2, ground := Go.Ground.data }], guard := none }
abbrev mdP4 : Oper := { dst := some 52, op := Go.Op.fieldAddr 46 (Go.Operand.tmp 10) 1, type := 0, pos := "law.go:34", after := #[{ on := 3, ground := Go.Ground.guard }], guard := some (3, false) }
abbrev mdP5 : Oper := { dst := some 53, op := Go.Op.load 27 (Go.Operand.tmp 52), type := 27, pos := "law.go:34", after := #[{ on := 4, ground := Go.Ground.data }, { on := 3, ground := Go.Ground.guard }], guard := some (3, false) }
abbrev mdP6 : Oper := { dst := some 54, op := Go.Op.load 27 (Go.Operand.tmp 4), type := 27, pos := "law.go:34", after := #[{ on := 3, ground := Go.Ground.guard }], guard := some (3, false) }
abbrev mdP7 : Oper := { dst := some 55, op := Go.Op.binOp Go.BinOp.neq 27 (Go.Operand.tmp 53) (Go.Operand.tmp 54) 27, type := 4, pos := "law.go:34", after := #[{ on := 5, ground := Go.Ground.data }, { on := 6, ground := Go.Ground.data }, { on := 3, ground := Go.Ground.guard }], guard := some (3, false) }
abbrev mdP8 : Oper := { dst := some 56, op := Go.Op.pick (Go.Operand.tmp 51) (Go.Operand.const (Go.Value.bool true)) (Go.Operand.tmp 55), type := 4, pos := "law.go:34", after := #[{ on := 3, ground := Go.Ground.data }, { on := 7, ground := Go.Ground.data }], guard := none }
abbrev mdP9 : Oper := { dst := some 57, op := Go.Op.move (Go.Operand.tmp 56), type := 4, pos := "law.go:34", after := #[{ on := 8, ground := Go.Ground.data }, { on := 3, ground := Go.Ground.chain }], guard := none }
abbrev mdP10 : Oper := { dst := some 58, op := Go.Op.fieldAddr 46 (Go.Operand.tmp 10) 2, type := 0, pos := "law.go:34", after := #[{ on := 9, ground := Go.Ground.guard }], guard := some (9, false) }
abbrev mdP11 : Oper := { dst := some 59, op := Go.Op.load 4 (Go.Operand.tmp 58), type := 4, pos := "law.go:34", after := #[{ on := 10, ground := Go.Ground.data }, { on := 9, ground := Go.Ground.guard }], guard := some (9, false) }
abbrev mdP12 : Oper := { dst := some 60, op := Go.Op.move (Go.Operand.tmp 1), type := 4, pos := "law.go:34", after := #[{ on := 9, ground := Go.Ground.guard }], guard := some (9, false) }
abbrev mdP13 : Oper := { dst := some 61, op := Go.Op.binOp Go.BinOp.neq 4 (Go.Operand.tmp 59) (Go.Operand.tmp 60) 4, type := 4, pos := "law.go:34", after := #[{ on := 11, ground := Go.Ground.data }, { on := 12, ground := Go.Ground.data }, { on := 9, ground := Go.Ground.guard }], guard := some (9, false) }
abbrev mdP14 : Oper := { dst := some 62, op := Go.Op.pick (Go.Operand.tmp 57) (Go.Operand.const (Go.Value.bool true)) (Go.Operand.tmp 61), type := 4, pos := "law.go:34", after := #[{ on := 9, ground := Go.Ground.data }, { on := 13, ground := Go.Ground.data }], guard := none }
abbrev mdP15 : Oper := { dst := some 63, op := Go.Op.move (Go.Operand.tmp 62), type := 4, pos := "law.go:34", after := #[{ on := 14, ground := Go.Ground.data }, { on := 9, ground := Go.Ground.chain }], guard := none }
abbrev mdP16 : Oper := { dst := some 64, op := Go.Op.fieldAddr 46 (Go.Operand.tmp 10) 3, type := 0, pos := "law.go:34", after := #[{ on := 15, ground := Go.Ground.guard }], guard := some (15, false) }
abbrev mdP17 : Oper := { dst := some 65, op := Go.Op.load 4 (Go.Operand.tmp 64), type := 4, pos := "law.go:34", after := #[{ on := 16, ground := Go.Ground.data }, { on := 15, ground := Go.Ground.guard }], guard := some (15, false) }
abbrev mdP18 : Oper := { dst := some 66, op := Go.Op.move (Go.Operand.tmp 2), type := 4, pos := "law.go:34", after := #[{ on := 15, ground := Go.Ground.guard }], guard := some (15, false) }
abbrev mdP19 : Oper := { dst := some 67, op := Go.Op.binOp Go.BinOp.neq 4 (Go.Operand.tmp 65) (Go.Operand.tmp 66) 4, type := 4, pos := "law.go:34", after := #[{ on := 17, ground := Go.Ground.data }, { on := 18, ground := Go.Ground.data }, { on := 15, ground := Go.Ground.guard }], guard := some (15, false) }
abbrev mdP20 : Oper := { dst := some 68, op := Go.Op.pick (Go.Operand.tmp 63) (Go.Operand.const (Go.Value.bool true)) (Go.Operand.tmp 67), type := 4, pos := "law.go:34", after := #[{ on := 15, ground := Go.Ground.data }, { on := 19, ground := Go.Ground.data }], guard := none }
abbrev mdP21 : Oper := { dst := some 69, op := Go.Op.move (Go.Operand.tmp 68), type := 4, pos := "law.go:34", after := #[{ on := 20, ground := Go.Ground.data }, { on := 15, ground := Go.Ground.chain }], guard := none }
abbrev mdP22 : Oper := { dst := some 70, op := Go.Op.fieldAddr 46 (Go.Operand.tmp 10) 4, type := 0, pos := "law.go:34", after := #[{ on := 21, ground := Go.Ground.guard }], guard := some (21, false) }
abbrev mdP23 : Oper := { dst := some 71, op := Go.Op.load 44 (Go.Operand.tmp 70), type := 44, pos := "law.go:34", after := #[{ on := 22, ground := Go.Ground.data }, { on := 21, ground := Go.Ground.guard }], guard := some (21, false) }
abbrev mdP24 : Oper := { dst := some 72, op := Go.Op.call { callee := Go.Callee.builtin Go.Builtin.len, args := #[Go.Operand.tmp 71], argTypes := #[44] }, type := 3, pos := "law.go:34", after := #[{ on := 23, ground := Go.Ground.data }, { on := 21, ground := Go.Ground.guard }], guard := some (21, false) }
abbrev mdP25 : Oper := { dst := some 73, op := Go.Op.binOp Go.BinOp.neq 3 (Go.Operand.tmp 72) (Go.Operand.const (Go.Value.int Go.IntKind.i64 0)) 3, type := 4, pos := "law.go:34", after := #[{ on := 24, ground := Go.Ground.data }, { on := 21, ground := Go.Ground.guard }], guard := some (21, false) }
abbrev mdP26 : Oper := { dst := some 74, op := Go.Op.pick (Go.Operand.tmp 69) (Go.Operand.const (Go.Value.bool true)) (Go.Operand.tmp 73), type := 4, pos := "law.go:34", after := #[{ on := 21, ground := Go.Ground.data }, { on := 25, ground := Go.Ground.data }], guard := none }
abbrev mdP27 : Oper := { dst := some 75, op := Go.Op.move (Go.Operand.tmp 74), type := 4, pos := "law.go:34", after := #[{ on := 26, ground := Go.Ground.data }, { on := 21, ground := Go.Ground.chain }], guard := none }
abbrev mdP28 : Oper := { dst := some 76, op := Go.Op.load 46 (Go.Operand.tmp 10), type := 46, pos := "law.go:34", after := #[{ on := 27, ground := Go.Ground.guard }], guard := some (27, false) }
abbrev mdP29 : Oper := { dst := some 77, op := Go.Op.call { callee := Go.Callee.value (Go.Operand.func 25), args := #[Go.Operand.tmp 76], argTypes := #[46] }, type := 4, pos := "law.go:34", after := #[{ on := 28, ground := Go.Ground.data }, { on := 27, ground := Go.Ground.chain }, { on := 27, ground := Go.Ground.guard }], guard := some (27, false) }
abbrev mdP30 : Oper := { dst := some 78, op := Go.Op.load 27 (Go.Operand.tmp 4), type := 27, pos := "law.go:34", after := #[{ on := 27, ground := Go.Ground.guard }], guard := some (27, false) }
abbrev mdP31 : Oper := { dst := some 79, op := Go.Op.call { callee := Go.Callee.value (Go.Operand.func 20), args := #[Go.Operand.tmp 78], argTypes := #[27] }, type := 4, pos := "law.go:34", after := #[{ on := 30, ground := Go.Ground.data }, { on := 29, ground := Go.Ground.chain }, { on := 27, ground := Go.Ground.guard }], guard := some (27, false) }
abbrev mdP32 : Oper := { dst := some 80, op := Go.Op.binOp Go.BinOp.neq 4 (Go.Operand.tmp 77) (Go.Operand.tmp 79) 4, type := 4, pos := "law.go:34", after := #[{ on := 29, ground := Go.Ground.data }, { on := 31, ground := Go.Ground.data }, { on := 27, ground := Go.Ground.guard }], guard := some (27, false) }
abbrev mdP33 : Oper := { dst := some 81, op := Go.Op.pick (Go.Operand.tmp 75) (Go.Operand.const (Go.Value.bool true)) (Go.Operand.tmp 80), type := 4, pos := "law.go:34", after := #[{ on := 27, ground := Go.Ground.data }, { on := 32, ground := Go.Ground.data }], guard := none }
abbrev mdP34 : Oper := { dst := some 82, op := Go.Op.move (Go.Operand.tmp 81), type := 4, pos := "law.go:34", after := #[{ on := 33, ground := Go.Ground.data }, { on := 31, ground := Go.Ground.chain }], guard := none }
abbrev mdP35 : Oper := { dst := some 83, op := Go.Op.load 46 (Go.Operand.tmp 10), type := 46, pos := "law.go:34", after := #[{ on := 34, ground := Go.Ground.guard }], guard := some (34, false) }
abbrev mdP36 : Oper := { dst := some 84, op := Go.Op.call { callee := Go.Callee.value (Go.Operand.func 27), args := #[Go.Operand.tmp 83], argTypes := #[46] }, type := 4, pos := "law.go:34", after := #[{ on := 35, ground := Go.Ground.data }, { on := 34, ground := Go.Ground.chain }, { on := 34, ground := Go.Ground.guard }], guard := some (34, false) }
abbrev mdP37 : Oper := { dst := some 85, op := Go.Op.load 27 (Go.Operand.tmp 4), type := 27, pos := "law.go:34", after := #[{ on := 34, ground := Go.Ground.guard }], guard := some (34, false) }
abbrev mdP38 : Oper := { dst := some 86, op := Go.Op.call { callee := Go.Callee.value (Go.Operand.func 20), args := #[Go.Operand.tmp 85], argTypes := #[27] }, type := 4, pos := "law.go:34", after := #[{ on := 37, ground := Go.Ground.data }, { on := 36, ground := Go.Ground.chain }, { on := 34, ground := Go.Ground.guard }], guard := some (34, false) }
abbrev mdP39 : Oper := { dst := some 87, op := Go.Op.binOp Go.BinOp.neq 4 (Go.Operand.tmp 84) (Go.Operand.tmp 86) 4, type := 4, pos := "law.go:34", after := #[{ on := 36, ground := Go.Ground.data }, { on := 38, ground := Go.Ground.data }, { on := 34, ground := Go.Ground.guard }], guard := some (34, false) }
abbrev mdP40 : Oper := { dst := some 88, op := Go.Op.pick (Go.Operand.tmp 82) (Go.Operand.const (Go.Value.bool true)) (Go.Operand.tmp 87), type := 4, pos := "law.go:34", after := #[{ on := 34, ground := Go.Ground.data }, { on := 39, ground := Go.Ground.data }], guard := none }
abbrev mdQ0 : Oper := { dst := some 108, op := Go.Op.load 46 (Go.Operand.tmp 10), type := 46, pos := "law.go:41", after := #[], guard := none }
abbrev mdQ1 : Oper := { dst := some 109, op := Go.Op.move (Go.Operand.tmp 3), type := 44, pos := "law.go:41", after := #[], guard := none }
abbrev mdQ2 : Oper := { dst := some 110, op := Go.Op.move (Go.Operand.tmp 13), type := 3, pos := "law.go:41", after := #[], guard := none }
abbrev mdQ3 : Oper := { dst := some 111, op := Go.Op.indexAddr 44 (Go.Operand.tmp 109) (Go.Operand.tmp 110), type := 0, pos := "law.go:41", after := #[{ on := 1, ground := Go.Ground.data }, { on := 2, ground := Go.Ground.data }], guard := none }
abbrev mdQ4 : Oper := { dst := some 112, op := Go.Op.load 46 (Go.Operand.tmp 111), type := 46, pos := "law.go:41", after := #[{ on := 3, ground := Go.Ground.data }], guard := none }
abbrev mdQ5 : Oper := { dst := some 113, op := Go.Op.call { callee := Go.Callee.value (Go.Operand.func 37), args := #[Go.Operand.tmp 108, Go.Operand.tmp 112], argTypes := #[46, 46] }, type := 46, pos := "law.go:41", after := #[{ on := 0, ground := Go.Ground.data }, { on := 4, ground := Go.Ground.data }], guard := none }
abbrev mdQ6 : Oper := { dst := some 14, op := Go.Op.alloc 46, type := 0, pos := "law.go:41", after := #[], guard := none }
abbrev mdQ7 : Oper := { dst := none, op := Go.Op.store 46 (Go.Operand.tmp 14) (Go.Operand.tmp 113), type := 0, pos := "law.go:41", after := #[{ on := 6, ground := Go.Ground.data }, { on := 5, ground := Go.Ground.data }, { on := 5, ground := Go.Ground.chain }, { on := 0, ground := Go.Ground.phase }, { on := 1, ground := Go.Ground.phase }, { on := 2, ground := Go.Ground.phase }, { on := 3, ground := Go.Ground.phase }, { on := 4, ground := Go.Ground.phase }, { on := 5, ground := Go.Ground.phase }, { on := 6, ground := Go.Ground.phase }], guard := none }
abbrev mdR0 : Oper := { dst := some 114, op := Go.Op.fieldAddr 46 (Go.Operand.tmp 14) 0, type := 0, pos := "law.go:42", after := #[], guard := none }
abbrev mdR1 : Oper := { dst := some 115, op := Go.Op.load 3 (Go.Operand.tmp 114), type := 3, pos := "law.go:42", after := #[{ on := 0, ground := Go.Ground.data }], guard := none }
abbrev mdR2 : Oper := { dst := some 116, op := Go.Op.binOp Go.BinOp.neq 3 (Go.Operand.tmp 115) (Go.Operand.const (Go.Value.int Go.IntKind.i64 1)) 3, type := 4, pos := "law.go:42", after := #[{ on := 1, ground := Go.Ground.data }], guard := none }
abbrev mdR3 : Oper := { dst := some 117, op := Go.Op.move (Go.Operand.tmp 116), type := 4, pos := "law.go:42", after := #[{ on := 2, ground := Go.Ground.data }], guard := none }
abbrev mdR4 : Oper := { dst := some 118, op := Go.Op.fieldAddr 46 (Go.Operand.tmp 14) 4, type := 0, pos := "law.go:42", after := #[{ on := 3, ground := Go.Ground.guard }], guard := some (3, false) }
abbrev mdR5 : Oper := { dst := some 119, op := Go.Op.load 44 (Go.Operand.tmp 118), type := 44, pos := "law.go:42", after := #[{ on := 4, ground := Go.Ground.data }, { on := 3, ground := Go.Ground.guard }], guard := some (3, false) }
abbrev mdR6 : Oper := { dst := some 120, op := Go.Op.call { callee := Go.Callee.builtin Go.Builtin.len, args := #[Go.Operand.tmp 119], argTypes := #[44] }, type := 3, pos := "law.go:42", after := #[{ on := 5, ground := Go.Ground.data }, { on := 3, ground := Go.Ground.guard }], guard := some (3, false) }
abbrev mdR7 : Oper := { dst := some 121, op := Go.Op.binOp Go.BinOp.neq 3 (Go.Operand.tmp 120) (Go.Operand.const (Go.Value.int Go.IntKind.i64 2)) 3, type := 4, pos := "law.go:42", after := #[{ on := 6, ground := Go.Ground.data }, { on := 3, ground := Go.Ground.guard }], guard := some (3, false) }
abbrev mdR8 : Oper := { dst := some 122, op := Go.Op.pick (Go.Operand.tmp 117) (Go.Operand.const (Go.Value.bool true)) (Go.Operand.tmp 121), type := 4, pos := "law.go:42", after := #[{ on := 3, ground := Go.Ground.data }, { on := 7, ground := Go.Ground.data }], guard := none }
abbrev mdR9 : Oper := { dst := some 123, op := Go.Op.move (Go.Operand.tmp 122), type := 4, pos := "law.go:42", after := #[{ on := 8, ground := Go.Ground.data }, { on := 3, ground := Go.Ground.chain }], guard := none }
abbrev mdR10 : Oper := { dst := some 124, op := Go.Op.fieldAddr 46 (Go.Operand.tmp 14) 4, type := 0, pos := "law.go:42", after := #[{ on := 9, ground := Go.Ground.guard }], guard := some (9, false) }
abbrev mdR11 : Oper := { dst := some 125, op := Go.Op.load 44 (Go.Operand.tmp 124), type := 44, pos := "law.go:42", after := #[{ on := 10, ground := Go.Ground.data }, { on := 9, ground := Go.Ground.guard }], guard := some (9, false) }
abbrev mdR12 : Oper := { dst := some 126, op := Go.Op.indexAddr 44 (Go.Operand.tmp 125) (Go.Operand.const (Go.Value.int Go.IntKind.i64 0)), type := 0, pos := "law.go:42", after := #[{ on := 11, ground := Go.Ground.data }, { on := 9, ground := Go.Ground.guard }], guard := some (9, false) }
abbrev mdR13 : Oper := { dst := some 127, op := Go.Op.load 46 (Go.Operand.tmp 126), type := 46, pos := "law.go:42", after := #[{ on := 12, ground := Go.Ground.data }, { on := 9, ground := Go.Ground.guard }], guard := some (9, false) }
abbrev mdR14 : Oper := { dst := some 128, op := Go.Op.load 46 (Go.Operand.tmp 10), type := 46, pos := "law.go:42", after := #[{ on := 9, ground := Go.Ground.guard }], guard := some (9, false) }
abbrev mdR15 : Oper := { dst := some 129, op := Go.Op.call { callee := Go.Callee.value (Go.Operand.func 33), args := #[Go.Operand.tmp 127, Go.Operand.tmp 128], argTypes := #[46, 46] }, type := 4, pos := "law.go:42", after := #[{ on := 13, ground := Go.Ground.data }, { on := 14, ground := Go.Ground.data }, { on := 9, ground := Go.Ground.chain }, { on := 9, ground := Go.Ground.guard }], guard := some (9, false) }
abbrev mdR16 : Oper := { dst := some 130, op := Go.Op.unOp Go.UnOp.not 4 (Go.Operand.tmp 129), type := 4, pos := "law.go:42", after := #[{ on := 15, ground := Go.Ground.data }, { on := 9, ground := Go.Ground.guard }], guard := some (9, false) }
abbrev mdR17 : Oper := { dst := some 131, op := Go.Op.pick (Go.Operand.tmp 123) (Go.Operand.const (Go.Value.bool true)) (Go.Operand.tmp 130), type := 4, pos := "law.go:42", after := #[{ on := 9, ground := Go.Ground.data }, { on := 16, ground := Go.Ground.data }], guard := none }
abbrev mdR18 : Oper := { dst := some 132, op := Go.Op.move (Go.Operand.tmp 131), type := 4, pos := "law.go:42", after := #[{ on := 17, ground := Go.Ground.data }, { on := 15, ground := Go.Ground.chain }], guard := none }
abbrev mdR19 : Oper := { dst := some 133, op := Go.Op.fieldAddr 46 (Go.Operand.tmp 14) 4, type := 0, pos := "law.go:42", after := #[{ on := 18, ground := Go.Ground.guard }], guard := some (18, false) }
abbrev mdR20 : Oper := { dst := some 134, op := Go.Op.load 44 (Go.Operand.tmp 133), type := 44, pos := "law.go:42", after := #[{ on := 19, ground := Go.Ground.data }, { on := 18, ground := Go.Ground.guard }], guard := some (18, false) }
abbrev mdR21 : Oper := { dst := some 135, op := Go.Op.indexAddr 44 (Go.Operand.tmp 134) (Go.Operand.const (Go.Value.int Go.IntKind.i64 1)), type := 0, pos := "law.go:42", after := #[{ on := 20, ground := Go.Ground.data }, { on := 18, ground := Go.Ground.guard }], guard := some (18, false) }
abbrev mdR22 : Oper := { dst := some 136, op := Go.Op.load 46 (Go.Operand.tmp 135), type := 46, pos := "law.go:42", after := #[{ on := 21, ground := Go.Ground.data }, { on := 18, ground := Go.Ground.guard }], guard := some (18, false) }
abbrev mdR23 : Oper := { dst := some 137, op := Go.Op.move (Go.Operand.tmp 3), type := 44, pos := "law.go:42", after := #[{ on := 18, ground := Go.Ground.guard }], guard := some (18, false) }
abbrev mdR24 : Oper := { dst := some 138, op := Go.Op.move (Go.Operand.tmp 13), type := 3, pos := "law.go:42", after := #[{ on := 18, ground := Go.Ground.guard }], guard := some (18, false) }
abbrev mdR25 : Oper := { dst := some 139, op := Go.Op.indexAddr 44 (Go.Operand.tmp 137) (Go.Operand.tmp 138), type := 0, pos := "law.go:42", after := #[{ on := 23, ground := Go.Ground.data }, { on := 24, ground := Go.Ground.data }, { on := 18, ground := Go.Ground.guard }], guard := some (18, false) }
abbrev mdR26 : Oper := { dst := some 140, op := Go.Op.load 46 (Go.Operand.tmp 139), type := 46, pos := "law.go:42", after := #[{ on := 25, ground := Go.Ground.data }, { on := 18, ground := Go.Ground.guard }], guard := some (18, false) }
abbrev mdR27 : Oper := { dst := some 141, op := Go.Op.call { callee := Go.Callee.value (Go.Operand.func 33), args := #[Go.Operand.tmp 136, Go.Operand.tmp 140], argTypes := #[46, 46] }, type := 4, pos := "law.go:42", after := #[{ on := 22, ground := Go.Ground.data }, { on := 26, ground := Go.Ground.data }, { on := 18, ground := Go.Ground.chain }, { on := 18, ground := Go.Ground.guard }], guard := some (18, false) }
abbrev mdR28 : Oper := { dst := some 142, op := Go.Op.unOp Go.UnOp.not 4 (Go.Operand.tmp 141), type := 4, pos := "law.go:42", after := #[{ on := 27, ground := Go.Ground.data }, { on := 18, ground := Go.Ground.guard }], guard := some (18, false) }
abbrev mdR29 : Oper := { dst := some 143, op := Go.Op.pick (Go.Operand.tmp 132) (Go.Operand.const (Go.Value.bool true)) (Go.Operand.tmp 142), type := 4, pos := "law.go:42", after := #[{ on := 18, ground := Go.Ground.data }, { on := 28, ground := Go.Ground.data }], guard := none }
abbrev mdR30 : Oper := { dst := some 144, op := Go.Op.move (Go.Operand.tmp 143), type := 4, pos := "law.go:42", after := #[{ on := 29, ground := Go.Ground.data }, { on := 27, ground := Go.Ground.chain }], guard := none }
abbrev mdR31 : Oper := { dst := some 145, op := Go.Op.load 46 (Go.Operand.tmp 14), type := 46, pos := "law.go:42", after := #[{ on := 30, ground := Go.Ground.guard }], guard := some (30, false) }
abbrev mdR32 : Oper := { dst := some 146, op := Go.Op.call { callee := Go.Callee.value (Go.Operand.func 25), args := #[Go.Operand.tmp 145], argTypes := #[46] }, type := 4, pos := "law.go:42", after := #[{ on := 31, ground := Go.Ground.data }, { on := 30, ground := Go.Ground.chain }, { on := 30, ground := Go.Ground.guard }], guard := some (30, false) }
abbrev mdR33 : Oper := { dst := some 147, op := Go.Op.load 46 (Go.Operand.tmp 10), type := 46, pos := "law.go:42", after := #[{ on := 30, ground := Go.Ground.guard }], guard := some (30, false) }
abbrev mdR34 : Oper := { dst := some 148, op := Go.Op.call { callee := Go.Callee.value (Go.Operand.func 27), args := #[Go.Operand.tmp 147], argTypes := #[46] }, type := 4, pos := "law.go:42", after := #[{ on := 33, ground := Go.Ground.data }, { on := 32, ground := Go.Ground.chain }, { on := 30, ground := Go.Ground.guard }], guard := some (30, false) }
abbrev mdR35 : Oper := { dst := some 149, op := Go.Op.move (Go.Operand.tmp 148), type := 4, pos := "law.go:42", after := #[{ on := 34, ground := Go.Ground.data }, { on := 34, ground := Go.Ground.chain }, { on := 30, ground := Go.Ground.guard }], guard := some (30, false) }
abbrev mdR36 : Oper := { dst := some 150, op := Go.Op.move (Go.Operand.tmp 3), type := 44, pos := "law.go:42", after := #[{ on := 35, ground := Go.Ground.guard }], guard := some (35, true) }
abbrev mdR37 : Oper := { dst := some 151, op := Go.Op.move (Go.Operand.tmp 13), type := 3, pos := "law.go:42", after := #[{ on := 35, ground := Go.Ground.guard }], guard := some (35, true) }
abbrev mdR38 : Oper := { dst := some 152, op := Go.Op.indexAddr 44 (Go.Operand.tmp 150) (Go.Operand.tmp 151), type := 0, pos := "law.go:42", after := #[{ on := 36, ground := Go.Ground.data }, { on := 37, ground := Go.Ground.data }, { on := 35, ground := Go.Ground.guard }], guard := some (35, true) }
abbrev mdR39 : Oper := { dst := some 153, op := Go.Op.load 46 (Go.Operand.tmp 152), type := 46, pos := "law.go:42", after := #[{ on := 38, ground := Go.Ground.data }, { on := 35, ground := Go.Ground.guard }], guard := some (35, true) }
abbrev mdR40 : Oper := { dst := some 154, op := Go.Op.call { callee := Go.Callee.value (Go.Operand.func 27), args := #[Go.Operand.tmp 153], argTypes := #[46] }, type := 4, pos := "law.go:42", after := #[{ on := 39, ground := Go.Ground.data }, { on := 35, ground := Go.Ground.chain }, { on := 35, ground := Go.Ground.guard }], guard := some (35, true) }
abbrev mdR41 : Oper := { dst := some 155, op := Go.Op.pick (Go.Operand.tmp 149) (Go.Operand.tmp 154) (Go.Operand.const (Go.Value.bool false)), type := 4, pos := "law.go:42", after := #[{ on := 35, ground := Go.Ground.data }, { on := 40, ground := Go.Ground.data }, { on := 30, ground := Go.Ground.guard }], guard := some (30, false) }
abbrev mdR42 : Oper := { dst := some 156, op := Go.Op.binOp Go.BinOp.neq 4 (Go.Operand.tmp 146) (Go.Operand.tmp 155) 4, type := 4, pos := "law.go:42", after := #[{ on := 32, ground := Go.Ground.data }, { on := 41, ground := Go.Ground.data }, { on := 30, ground := Go.Ground.guard }], guard := some (30, false) }
abbrev mdR43 : Oper := { dst := some 157, op := Go.Op.pick (Go.Operand.tmp 144) (Go.Operand.const (Go.Value.bool true)) (Go.Operand.tmp 156), type := 4, pos := "law.go:42", after := #[{ on := 30, ground := Go.Ground.data }, { on := 42, ground := Go.Ground.data }], guard := none }
abbrev mdR44 : Oper := { dst := some 158, op := Go.Op.move (Go.Operand.tmp 157), type := 4, pos := "law.go:42", after := #[{ on := 43, ground := Go.Ground.data }, { on := 40, ground := Go.Ground.chain }], guard := none }
abbrev mdR45 : Oper := { dst := some 159, op := Go.Op.load 46 (Go.Operand.tmp 14), type := 46, pos := "law.go:42", after := #[{ on := 44, ground := Go.Ground.guard }], guard := some (44, false) }
abbrev mdR46 : Oper := { dst := some 160, op := Go.Op.call { callee := Go.Callee.value (Go.Operand.func 29), args := #[Go.Operand.tmp 159], argTypes := #[46] }, type := 3, pos := "law.go:42", after := #[{ on := 45, ground := Go.Ground.data }, { on := 44, ground := Go.Ground.chain }, { on := 44, ground := Go.Ground.guard }], guard := some (44, false) }
abbrev mdR47 : Oper := { dst := some 161, op := Go.Op.move (Go.Operand.tmp 3), type := 44, pos := "law.go:42", after := #[{ on := 44, ground := Go.Ground.guard }], guard := some (44, false) }
abbrev mdR48 : Oper := { dst := some 162, op := Go.Op.move (Go.Operand.tmp 13), type := 3, pos := "law.go:42", after := #[{ on := 44, ground := Go.Ground.guard }], guard := some (44, false) }
abbrev mdR49 : Oper := { dst := some 163, op := Go.Op.indexAddr 44 (Go.Operand.tmp 161) (Go.Operand.tmp 162), type := 0, pos := "law.go:42", after := #[{ on := 47, ground := Go.Ground.data }, { on := 48, ground := Go.Ground.data }, { on := 44, ground := Go.Ground.guard }], guard := some (44, false) }
abbrev mdR50 : Oper := { dst := some 164, op := Go.Op.load 46 (Go.Operand.tmp 163), type := 46, pos := "law.go:42", after := #[{ on := 49, ground := Go.Ground.data }, { on := 44, ground := Go.Ground.guard }], guard := some (44, false) }
abbrev mdR51 : Oper := { dst := some 165, op := Go.Op.call { callee := Go.Callee.value (Go.Operand.func 29), args := #[Go.Operand.tmp 164], argTypes := #[46] }, type := 3, pos := "law.go:42", after := #[{ on := 50, ground := Go.Ground.data }, { on := 46, ground := Go.Ground.chain }, { on := 44, ground := Go.Ground.guard }], guard := some (44, false) }
abbrev mdR52 : Oper := { dst := some 166, op := Go.Op.binOp Go.BinOp.add 3 (Go.Operand.tmp 165) (Go.Operand.const (Go.Value.int Go.IntKind.i64 2)) 3, type := 3, pos := "law.go:42", after := #[{ on := 51, ground := Go.Ground.data }, { on := 44, ground := Go.Ground.guard }], guard := some (44, false) }
abbrev mdR53 : Oper := { dst := some 167, op := Go.Op.binOp Go.BinOp.neq 3 (Go.Operand.tmp 160) (Go.Operand.tmp 166) 3, type := 4, pos := "law.go:42", after := #[{ on := 46, ground := Go.Ground.data }, { on := 52, ground := Go.Ground.data }, { on := 44, ground := Go.Ground.guard }], guard := some (44, false) }
abbrev mdR54 : Oper := { dst := some 168, op := Go.Op.pick (Go.Operand.tmp 158) (Go.Operand.const (Go.Value.bool true)) (Go.Operand.tmp 167), type := 4, pos := "law.go:42", after := #[{ on := 44, ground := Go.Ground.data }, { on := 53, ground := Go.Ground.data }], guard := none }
set_option maxHeartbeats 16000000 in
set_option maxRecDepth 100000 in
theorem treeMade_no0 (pk : Int) (y m q : ByteArray) (a t : Bool) (l : List ND) (ad : Option Addr) (cp : Nat) (w : World) (hu : NodesAt w (.slice ad l.length cp) l) (bn : cntL l ≤ 2000000) (T : TabSH w) (h0 : 10 < y.size) : Calls Tryd.prog 6 #[.agg #[.int .i64 pk, .string y, .string m, .string q], .bool a, .bool t, .slice ad l.length cp] w fun e w' => e = .returned (.bool true) ∧ Kp w w' := by
  have AW := Lib.hid (fun w1 (qq : Kp w w1) => awake10 w1 (T.kp qq))
  have FW : ∀ w1, Kp w w1 → Calls Tryd.prog 24 #[.agg #[.int .i64 0, .int .i64 0, .string ⟨#[]⟩, .string ⟨#[]⟩, .string ⟨#[]⟩, .bool false, .bool false, .slice ad l.length cp]] w1 fun e w' => e = .returned (.bool (fewN (.mk 0 pt0 false false l : ND))) ∧ Kp w1 w' := fun w1 qq => rfewN_any (.mk 0 pt0 false false l : ND) (.slice ad l.length cp) w1 (hu.kp qq) bn
  have z0 : decide ((10 : Int) < ((y.size : Nat) : Int)) = true := decide_eq_true (by omega)
  clear FW hu T bn h0
  go_enter Tryd.func6, Tryd.ntmps6
  go_wp2_with fail
  refine (AW.out _ (Kp.alloc _ _)).mono ?_
  rintro e w1 ⟨rfl, kk⟩
  have K1 := Lib.hid ((Kp.alloc _ _).trans kk)
  have GP1 := Lib.hid (heap_block kk (heap_at w (.cells #[.int .i64 pk, .string y, .string m, .string q] 27) w.heap.size rfl))
  clear kk
  obtain ⟨p0, p1, p2, p3⟩ := row4 GP1.out
  go_wp2
  go_ret
  exact ⟨rfl, K1.out⟩
set_option maxHeartbeats 16000000 in
set_option maxRecDepth 100000 in
theorem treeMade_no1 (pk : Int) (y m q : ByteArray) (a t : Bool) (l : List ND) (ad : Option Addr) (cp : Nat) (w : World) (hu : NodesAt w (.slice ad l.length cp) l) (bn : cntL l ≤ 2000000) (T : TabSH w) (h0 : 10 < m.size) (g0 : y.size ≤ 10) : Calls Tryd.prog 6 #[.agg #[.int .i64 pk, .string y, .string m, .string q], .bool a, .bool t, .slice ad l.length cp] w fun e w' => e = .returned (.bool true) ∧ Kp w w' := by
  have AW := Lib.hid (fun w1 (qq : Kp w w1) => awake10 w1 (T.kp qq))
  have FW : ∀ w1, Kp w w1 → Calls Tryd.prog 24 #[.agg #[.int .i64 0, .int .i64 0, .string ⟨#[]⟩, .string ⟨#[]⟩, .string ⟨#[]⟩, .bool false, .bool false, .slice ad l.length cp]] w1 fun e w' => e = .returned (.bool (fewN (.mk 0 pt0 false false l : ND))) ∧ Kp w1 w' := fun w1 qq => rfewN_any (.mk 0 pt0 false false l : ND) (.slice ad l.length cp) w1 (hu.kp qq) bn
  have z0 : decide ((10 : Int) < ((y.size : Nat) : Int)) = false := decide_eq_false (by omega)
  have z1 : decide ((10 : Int) < ((m.size : Nat) : Int)) = true := decide_eq_true (by omega)
  clear FW hu T bn h0 g0
  go_enter Tryd.func6, Tryd.ntmps6
  go_wp2_with fail
  refine (AW.out _ (Kp.alloc _ _)).mono ?_
  rintro e w1 ⟨rfl, kk⟩
  have K1 := Lib.hid ((Kp.alloc _ _).trans kk)
  have GP1 := Lib.hid (heap_block kk (heap_at w (.cells #[.int .i64 pk, .string y, .string m, .string q] 27) w.heap.size rfl))
  clear kk
  obtain ⟨p0, p1, p2, p3⟩ := row4 GP1.out
  go_wp2
  go_ret
  exact ⟨rfl, K1.out⟩
set_option maxHeartbeats 16000000 in
set_option maxRecDepth 100000 in
theorem treeMade_no2 (pk : Int) (y m q : ByteArray) (a t : Bool) (l : List ND) (ad : Option Addr) (cp : Nat) (w : World) (hu : NodesAt w (.slice ad l.length cp) l) (bn : cntL l ≤ 2000000) (T : TabSH w) (h0 : 10 < q.size) (g0 : y.size ≤ 10) (g1 : m.size ≤ 10) : Calls Tryd.prog 6 #[.agg #[.int .i64 pk, .string y, .string m, .string q], .bool a, .bool t, .slice ad l.length cp] w fun e w' => e = .returned (.bool true) ∧ Kp w w' := by
  have AW := Lib.hid (fun w1 (qq : Kp w w1) => awake10 w1 (T.kp qq))
  have FW : ∀ w1, Kp w w1 → Calls Tryd.prog 24 #[.agg #[.int .i64 0, .int .i64 0, .string ⟨#[]⟩, .string ⟨#[]⟩, .string ⟨#[]⟩, .bool false, .bool false, .slice ad l.length cp]] w1 fun e w' => e = .returned (.bool (fewN (.mk 0 pt0 false false l : ND))) ∧ Kp w1 w' := fun w1 qq => rfewN_any (.mk 0 pt0 false false l : ND) (.slice ad l.length cp) w1 (hu.kp qq) bn
  have z0 : decide ((10 : Int) < ((y.size : Nat) : Int)) = false := decide_eq_false (by omega)
  have z1 : decide ((10 : Int) < ((m.size : Nat) : Int)) = false := decide_eq_false (by omega)
  have z2 : decide ((10 : Int) < ((q.size : Nat) : Int)) = true := decide_eq_true (by omega)
  clear FW hu T bn h0 g0 g1
  go_enter Tryd.func6, Tryd.ntmps6
  go_wp2_with fail
  refine (AW.out _ (Kp.alloc _ _)).mono ?_
  rintro e w1 ⟨rfl, kk⟩
  have K1 := Lib.hid ((Kp.alloc _ _).trans kk)
  have GP1 := Lib.hid (heap_block kk (heap_at w (.cells #[.int .i64 pk, .string y, .string m, .string q] 27) w.heap.size rfl))
  clear kk
  obtain ⟨p0, p1, p2, p3⟩ := row4 GP1.out
  go_wp2
  go_ret
  exact ⟨rfl, K1.out⟩
set_option maxHeartbeats 16000000 in
set_option maxRecDepth 100000 in
theorem treeMade_no3 (pk : Int) (y m q : ByteArray) (a t : Bool) (l : List ND) (ad : Option Addr) (cp : Nat) (w : World) (hu : NodesAt w (.slice ad l.length cp) l) (bn : cntL l ≤ 2000000) (T : TabSH w) (g0 : y.size ≤ 10) (g1 : m.size ≤ 10) (g2 : q.size ≤ 10) (h0 : 8 < l.length) : Calls Tryd.prog 6 #[.agg #[.int .i64 pk, .string y, .string m, .string q], .bool a, .bool t, .slice ad l.length cp] w fun e w' => e = .returned (.bool true) ∧ Kp w w' := by
  have AW := Lib.hid (fun w1 (qq : Kp w w1) => awake10 w1 (T.kp qq))
  have FW : ∀ w1, Kp w w1 → Calls Tryd.prog 24 #[.agg #[.int .i64 0, .int .i64 0, .string ⟨#[]⟩, .string ⟨#[]⟩, .string ⟨#[]⟩, .bool false, .bool false, .slice ad l.length cp]] w1 fun e w' => e = .returned (.bool (fewN (.mk 0 pt0 false false l : ND))) ∧ Kp w1 w' := fun w1 qq => rfewN_any (.mk 0 pt0 false false l : ND) (.slice ad l.length cp) w1 (hu.kp qq) bn
  have z0 : decide ((10 : Int) < ((y.size : Nat) : Int)) = false := decide_eq_false (by omega)
  have z1 : decide ((10 : Int) < ((m.size : Nat) : Int)) = false := decide_eq_false (by omega)
  have z2 : decide ((10 : Int) < ((q.size : Nat) : Int)) = false := decide_eq_false (by omega)
  have z3 : decide ((8 : Int) < ((l.length : Nat) : Int)) = true := decide_eq_true (by omega)
  clear FW hu T bn h0 g0 g1 g2
  go_enter Tryd.func6, Tryd.ntmps6
  go_wp2_with fail
  refine (AW.out _ (Kp.alloc _ _)).mono ?_
  rintro e w1 ⟨rfl, kk⟩
  have K1 := Lib.hid ((Kp.alloc _ _).trans kk)
  have GP1 := Lib.hid (heap_block kk (heap_at w (.cells #[.int .i64 pk, .string y, .string m, .string q] 27) w.heap.size rfl))
  clear kk
  obtain ⟨p0, p1, p2, p3⟩ := row4 GP1.out
  go_wp2
  go_ret
  exact ⟨rfl, K1.out⟩
set_option maxHeartbeats 16000000 in
set_option maxRecDepth 100000 in
theorem treeMade_no4 (pk : Int) (y m q : ByteArray) (a t : Bool) (l : List ND) (ad : Option Addr) (cp : Nat) (w : World) (hu : NodesAt w (.slice ad l.length cp) l) (bn : cntL l ≤ 2000000) (T : TabSH w) (g0 : y.size ≤ 10) (g1 : m.size ≤ 10) (g2 : q.size ≤ 10) (g3 : l.length ≤ 8) (hf : fewN (.mk 0 pt0 false false l : ND) = false) : Calls Tryd.prog 6 #[.agg #[.int .i64 pk, .string y, .string m, .string q], .bool a, .bool t, .slice ad l.length cp] w fun e w' => e = .returned (.bool true) ∧ Kp w w' := by
  have AW := Lib.hid (fun w1 (qq : Kp w w1) => awake10 w1 (T.kp qq))
  have FW : ∀ w1, Kp w w1 → Calls Tryd.prog 24 #[.agg #[.int .i64 0, .int .i64 0, .string ⟨#[]⟩, .string ⟨#[]⟩, .string ⟨#[]⟩, .bool false, .bool false, .slice ad l.length cp]] w1 fun e w' => e = .returned (.bool (fewN (.mk 0 pt0 false false l : ND))) ∧ Kp w1 w' := fun w1 qq => rfewN_any (.mk 0 pt0 false false l : ND) (.slice ad l.length cp) w1 (hu.kp qq) bn
  rw [hf] at FW
  have FWH := Lib.hid FW
  have z0 : decide ((10 : Int) < ((y.size : Nat) : Int)) = false := decide_eq_false (by omega)
  have z1 : decide ((10 : Int) < ((m.size : Nat) : Int)) = false := decide_eq_false (by omega)
  have z2 : decide ((10 : Int) < ((q.size : Nat) : Int)) = false := decide_eq_false (by omega)
  have z3 : decide ((8 : Int) < ((l.length : Nat) : Int)) = false := decide_eq_false (by omega)
  clear FW hu T bn hf g0 g1 g2 g3
  go_enter Tryd.func6, Tryd.ntmps6
  go_wp2_with fail
  refine (AW.out _ (Kp.alloc _ _)).mono ?_
  rintro e w1 ⟨rfl, kk⟩
  have K1 := Lib.hid ((Kp.alloc _ _).trans kk)
  have GP1 := Lib.hid (heap_block kk (heap_at w (.cells #[.int .i64 pk, .string y, .string m, .string q] 27) w.heap.size rfl))
  clear kk
  obtain ⟨p0, p1, p2, p3⟩ := row4 GP1.out
  go_wp2_with fail
  refine (FWH.out _ K1.out).mono ?_
  rintro e w2 ⟨rfl, kk⟩
  have K2 := Lib.hid (K1.out.trans kk)
  have GP2 := Lib.hid (heap_block kk GP1.out)
  clear kk p0 p1 p2 p3 GP1
  go_wp2
  go_ret
  exact ⟨rfl, K2.out⟩
end Go.Proofs.YtjiikianmjmgcaaDoor
