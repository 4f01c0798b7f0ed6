/-
  Layer 10: TreeSame, where all fields are the same.
-/
import Derived.Test.YtbjnghmmfolaeaaDoorGTrB
import Derived.Test.YtbjnghmmfolaeaaDoorGLeafA
namespace Go.Proofs.YtbjnghmmfolaeaaDoor
open Go.RowKit
set_option linter.unusedVariables false
set_option linter.unusedSimpArgs false
abbrev sN0 : Oper := { dst := some 107, op := Go.Op.fieldAddr 54 (Go.Operand.tmp 2) 4, type := 0, pos := "law.go:89", after := #[], guard := none }
abbrev sN1 : Oper := { dst := some 108, op := Go.Op.load 52 (Go.Operand.tmp 107), type := 52, pos := "law.go:89", after := #[{ on := 0, ground := Go.Ground.data }], guard := none }
abbrev sN2 : Oper := { dst := some 109, op := Go.Op.move (Go.Operand.tmp 11), type := 3, pos := "law.go:89", after := #[], guard := none }
abbrev sN3 : Oper := { dst := some 110, op := Go.Op.indexAddr 52 (Go.Operand.tmp 108) (Go.Operand.tmp 109), type := 0, pos := "law.go:89", after := #[{ on := 1, ground := Go.Ground.data }, { on := 2, ground := Go.Ground.data }], guard := none }
abbrev sN4 : Oper := { dst := some 111, op := Go.Op.load 54 (Go.Operand.tmp 110), type := 54, pos := "law.go:89", after := #[{ on := 3, ground := Go.Ground.data }], guard := none }
abbrev sN5 : Oper := { dst := some 112, op := Go.Op.fieldAddr 54 (Go.Operand.tmp 3) 4, type := 0, pos := "law.go:89", after := #[], guard := none }
abbrev sN6 : Oper := { dst := some 113, op := Go.Op.load 52 (Go.Operand.tmp 112), type := 52, pos := "law.go:89", after := #[{ on := 5, ground := Go.Ground.data }], guard := none }
abbrev sN7 : Oper := { dst := some 114, op := Go.Op.move (Go.Operand.tmp 11), type := 3, pos := "law.go:89", after := #[], guard := none }
abbrev sN8 : Oper := { dst := some 115, op := Go.Op.indexAddr 52 (Go.Operand.tmp 113) (Go.Operand.tmp 114), type := 0, pos := "law.go:89", after := #[{ on := 6, ground := Go.Ground.data }, { on := 7, ground := Go.Ground.data }], guard := none }
abbrev sN9 : Oper := { dst := some 116, op := Go.Op.load 54 (Go.Operand.tmp 115), type := 54, pos := "law.go:89", after := #[{ on := 8, ground := Go.Ground.data }], guard := none }
abbrev sN10 : Oper := { dst := some 117, op := Go.Op.call { callee := Go.Callee.value (Go.Operand.func 45), args := #[Go.Operand.tmp 111, Go.Operand.tmp 116], argTypes := #[54, 54] }, type := 4, pos := "law.go:89", after := #[{ on := 4, ground := Go.Ground.data }, { on := 9, ground := Go.Ground.data }], guard := none }
abbrev sN11 : Oper := { dst := some 10, op := Go.Op.assign (Go.Operand.tmp 117), type := 4, pos := "law.go:89", after := #[{ on := 10, ground := Go.Ground.data }, { on := 10, ground := Go.Ground.chain }, { on := 0, ground := Go.Ground.phase }, { on := 1, ground := Go.Ground.phase }, { on := 2, ground := Go.Ground.phase }, { on := 3, ground := Go.Ground.phase }, { on := 4, ground := Go.Ground.phase }, { on := 5, ground := Go.Ground.phase }, { on := 6, ground := Go.Ground.phase }, { on := 7, ground := Go.Ground.phase }, { on := 8, ground := Go.Ground.phase }, { on := 9, ground := Go.Ground.phase }, { on := 10, ground := Go.Ground.phase }], guard := none }
set_option maxHeartbeats 16000000 in
set_option maxRecDepth 100000 in
theorem treeSame_yes8 (k pk : Int) (y m q : ByteArray) (a t : Bool) (l : List ND) (ad : Option Addr) (cp : Nat) (l' : List ND) (ad' : Option Addr) (cp' : Nat) (w : World) (hu : NodesAt w (.slice ad l.length cp) l) (hv : NodesAt w (.slice ad' l'.length cp') l') (bn : cntL l ≤ 2000000) (bm : cntL l' ≤ 2000000) (gk : -9223372036854775808 ≤ k ∧ k ≤ 9223372036854775807) (T : TabSH w) (hf : fewN (.mk k ⟨pk, y, m, q⟩ a t l : ND) = true) (hg : fewN (.mk k ⟨pk, y, m, q⟩ a t l' : ND) = true) (hk : l.length = l'.length) : Calls Tryd.prog 11 #[.agg #[.int .i64 k, .int .i64 pk, .string y, .string m, .string q, .bool a, .bool t, .slice ad l.length cp], .agg #[.int .i64 k, .int .i64 pk, .string y, .string m, .string q, .bool a, .bool t, .slice ad' l'.length cp']] w fun e w' => e = .returned (.bool true) ∧ Kp w w' := by
  have AW := Lib.hid (fun w1 (qq : Kp w w1) => awake10 w1 (T.kp qq))
  have F1 : ∀ w1, Kp w w1 → Calls Tryd.prog 36 #[.agg #[.int .i64 k, .int .i64 pk, .string y, .string m, .string q, .bool a, .bool t, .slice ad l.length cp]] w1 fun e w' => e = .returned (.bool (fewN (.mk k ⟨pk, y, m, q⟩ a t l : ND))) ∧ Kp w1 w' := fun w1 qq => rfewN_any (.mk k ⟨pk, y, m, q⟩ a t l : ND) (.slice ad l.length cp) w1 (hu.kp qq) bn
  have F2 : ∀ w1, Kp w w1 → Calls Tryd.prog 36 #[.agg #[.int .i64 k, .int .i64 pk, .string y, .string m, .string q, .bool a, .bool t, .slice ad' l'.length cp']] w1 fun e w' => e = .returned (.bool (fewN (.mk k ⟨pk, y, m, q⟩ a t l' : ND))) ∧ Kp w1 w' := fun w1 qq => rfewN_any (.mk k ⟨pk, y, m, q⟩ a t l' : ND) (.slice ad' l'.length cp') w1 (hv.kp qq) bm
  rw [hf] at F1
  rw [hg] at F2
  have F1H := Lib.hid F1
  have F2H := Lib.hid F2
  have cn := few_cnt hf
  have cm := few_cnt hg
  have hq := few_short hf
  have S6 : ∀ w1, Kp w w1 → Calls Tryd.prog 45 #[.agg #[.int .i64 k, .int .i64 pk, .string y, .string m, .string q, .bool (!a), .bool t, .slice ad l.length cp], .agg #[.int .i64 k, .int .i64 pk, .string y, .string m, .string q, .bool a, .bool t, .slice ad l.length cp]] w1 fun e w' => e = .returned (.bool false) ∧ Kp w1 w' := fun w1 qq => by
    have this := tSame_any (.mk k ⟨pk, y, m, q⟩ (!a) t l : ND) (.mk k ⟨pk, y, m, q⟩ a t l : ND) (.slice ad l.length cp) (.slice ad l.length cp) w1 (hu.kp qq) (hu.kp qq) cn
    rw [same_no (by intro h; simp at h)] at this
    exact this
  have H6 := Lib.hid S6
  clear S6
  have S7 : ∀ w1, Kp w w1 → Calls Tryd.prog 45 #[.agg #[.int .i64 k, .int .i64 pk, .string y, .string m, .string q, .bool a, .bool t, .slice ad l.length cp], .agg #[.int .i64 k, .int .i64 pk, .string y, .string m, .string q, .bool a, .bool (!t), .slice ad l.length cp]] w1 fun e w' => e = .returned (.bool false) ∧ Kp w1 w' := fun w1 qq => by
    have this := tSame_any (.mk k ⟨pk, y, m, q⟩ a t l : ND) (.mk k ⟨pk, y, m, q⟩ a (!t) l : ND) (.slice ad l.length cp) (.slice ad l.length cp) w1 (hu.kp qq) (hu.kp qq) cn
    rw [same_no (by intro h; simp at h)] at this
    exact this
  have H7 := Lib.hid S7
  clear S7
  have S8 : ∀ w1, Kp w w1 → Calls Tryd.prog 45 #[.agg #[.int .i64 (bits .xor .i64 k 1), .int .i64 pk, .string y, .string m, .string q, .bool a, .bool t, .slice ad l.length cp], .agg #[.int .i64 k, .int .i64 pk, .string y, .string m, .string q, .bool a, .bool t, .slice ad l.length cp]] w1 fun e w' => e = .returned (.bool false) ∧ Kp w1 w' := fun w1 qq => by
    have this := tSame_any (.mk (bits .xor .i64 k 1) ⟨pk, y, m, q⟩ a t l : ND) (.mk k ⟨pk, y, m, q⟩ a t l : ND) (.slice ad l.length cp) (.slice ad l.length cp) w1 (hu.kp qq) (hu.kp qq) cn
    rw [same_no (by intro h; simp only [ND.mk.injEq] at h; exact xor_ne k h.1)] at this
    exact this
  have H8 := Lib.hid S8
  clear S8
  have S9 : ∀ w1, Kp w w1 → Calls Tryd.prog 45 #[.agg #[.int .i64 k, .int .i64 pk, .string y, .string m, .string q, .bool a, .bool t, .slice ad l.length cp], .agg #[.int .i64 k, .int .i64 pk, .string y, .string m, .string (q ++ ⟨#[88]⟩), .bool a, .bool t, .slice ad l.length cp]] w1 fun e w' => e = .returned (.bool false) ∧ Kp w1 w' := fun w1 qq => by
    have this := tSame_any (.mk k ⟨pk, y, m, q⟩ a t l : ND) (.mk k ⟨pk, y, m, (q ++ ⟨#[88]⟩)⟩ a t l : ND) (.slice ad l.length cp) (.slice ad l.length cp) w1 (hu.kp qq) (hu.kp qq) cn
    rw [same_no (by intro h; simp only [ND.mk.injEq, PT.mk.injEq] at h; exact app_ne q h.2.1.2.2.2.symm)] at this
    exact this
  have H9 := Lib.hid S9
  clear S9
  obtain ⟨res, hres⟩ : ∃ r, sameN (.mk k ⟨pk, y, m, q⟩ a t l : ND) (.mk k ⟨pk, y, m, q⟩ a t l' : ND) = r := ⟨_, rfl⟩
  have SA : res = true ↔ ∀ i, i < l.length → sameN (nth l i) (nth l' i) = true := by
    rw [← hres, sameN_fields, ← sameL_at hk]
    simp [ND.k, ND.p, ND.a, ND.t, ND.l, (eqP_iff _ _).2 rfl, hk]
  have S1 : ∀ w1, Kp w w1 → Calls Tryd.prog 45 #[.agg #[.int .i64 k, .int .i64 pk, .string y, .string m, .string q, .bool a, .bool t, .slice ad l.length cp], .agg #[.int .i64 k, .int .i64 pk, .string y, .string m, .string q, .bool a, .bool t, .slice ad' l'.length cp']] w1 fun e w' => e = .returned (.bool res) ∧ Kp w1 w' := fun w1 qq => by
    have this := tSame_any (.mk k ⟨pk, y, m, q⟩ a t l : ND) (.mk k ⟨pk, y, m, q⟩ a t l' : ND) (.slice ad l.length cp) (.slice ad' l'.length cp') w1 (hu.kp qq) (hv.kp qq) cn
    rw [hres] at this
    exact this
  have H1 := Lib.hid S1
  clear S1
  have S2 : ∀ w1, Kp w w1 → Calls Tryd.prog 45 #[.agg #[.int .i64 k, .int .i64 pk, .string y, .string m, .string q, .bool a, .bool t, .slice ad' l'.length cp'], .agg #[.int .i64 k, .int .i64 pk, .string y, .string m, .string q, .bool a, .bool t, .slice ad l.length cp]] w1 fun e w' => e = .returned (.bool res) ∧ Kp w1 w' := fun w1 qq => by
    have this := tSame_any (.mk k ⟨pk, y, m, q⟩ a t l' : ND) (.mk k ⟨pk, y, m, q⟩ a t l : ND) (.slice ad' l'.length cp') (.slice ad l.length cp) w1 (hv.kp qq) (hu.kp qq) cm
    rw [sameN_comm, hres] at this
    exact this
  have H2 := Lib.hid S2
  clear S2
  have HU := Lib.hid hu
  have HV := Lib.hid hv
  have HCN := Lib.hid cn
  have HCM := Lib.hid cm
  have ll : l.length ≤ 1000 := by have := len_cntL l; have e : cntN (.mk k ⟨pk, y, m, q⟩ a t l : ND) = cntL l + 1 := rfl; omega
  have SAx := Lib.hid SA
  have HLEN := Lib.hid hk
  have HCT := Lib.hid (fun i (hi : i < l.length) => show cntN (nth l i) ≤ 1000 from by have := cnt_mem (nth_mem hi); have e : cntN (.mk k ⟨pk, y, m, q⟩ a t l : ND) = cntL l + 1 := rfl; omega)
  have e1 : ((l.length : Int) == (l'.length : Int)) = true := by rw [hk]; exact beq_self_eq_true _
  clear SA hk hres
  have SA := Lib.hid SAx.out
  clear SAx
  clear F1 F2 hu hv T hf hg bn bm cn cm
  go_enter Tryd.func11, Tryd.ntmps11
  go_wp2_with fail
  refine (AW.out _ ((Kp.alloc _ _).trans (Kp.alloc _ _))).mono ?_
  rintro e w1 ⟨rfl, kk⟩
  have gA := heap_block ((Kp.alloc _ _).trans kk) (heap_at w (.cells #[.int .i64 k, .int .i64 pk, .string y, .string m, .string q, .bool a, .bool t, .slice ad l.length cp] 54) w.heap.size rfl)
  have gB := heap_block kk (heap_at (w.alloc (.cells #[.int .i64 k, .int .i64 pk, .string y, .string m, .string q, .bool a, .bool t, .slice ad l.length cp] 54)) (.cells #[.int .i64 k, .int .i64 pk, .string y, .string m, .string q, .bool a, .bool t, .slice ad' l'.length cp'] 54) (w.heap.size + 1) (by simp))
  have K1 := Lib.hid (((Kp.alloc _ _).trans (Kp.alloc _ _)).trans kk)
  have GA := Lib.hid gA
  have GB := Lib.hid gB
  clear kk gA gB
  obtain ⟨x0, x1, x2, x3, x4, x5, x6, x7⟩ := row8 GA.out
  go_wp2_with fail
  refine (F1H.out _ K1.out).mono ?_
  rintro e w2 ⟨rfl, kk⟩
  have K2 := Lib.hid (K1.out.trans kk)
  have GA2 := Lib.hid (heap_block kk GA.out)
  have GB2 := Lib.hid (heap_block kk GB.out)
  clear kk x0 x1 x2 x3 x4 x5 x6 x7 GA GB
  obtain ⟨x0, x1, x2, x3, x4, x5, x6, x7⟩ := row8 GB2.out
  go_wp2_with fail
  refine (F2H.out _ K2.out).mono ?_
  rintro e w3 ⟨rfl, kk⟩
  have K3 := Lib.hid (K2.out.trans kk)
  have GA := Lib.hid (heap_block kk GA2.out)
  have GB := Lib.hid (heap_block kk GB2.out)
  clear kk x0 x1 x2 x3 x4 x5 x6 x7 GA2 GB2
  have z3 : w.heap.size + 1 < w3.heap.size := (Array.getElem?_eq_some_iff.1 GB.out).1
  have n0 : ¬ w.heap.size = w3.heap.size := by omega
  have hq1 : ¬ 9223372036854775807 < q.size + 1 := by have : q.size ≤ 10 := hq; omega
  have n1 : ¬ w.heap.size = w3.heap.size + 1 := by omega
  have n2 : ¬ w.heap.size = w3.heap.size + 1 + 1 := by omega
  have n3 : ¬ w.heap.size = w3.heap.size + 1 + 1 + 1 := by omega
  have l0 : w.heap.size < w3.heap.size := by omega
  have l1 : w.heap.size < w3.heap.size + 1 := by omega
  have l2 : w.heap.size < w3.heap.size + 1 + 1 := by omega
  have l3 : w.heap.size < w3.heap.size + 1 + 1 + 1 := by omega
  obtain ⟨x0, x1, x2, x3, x4, x5, x6, x7⟩ := row8 GA.out
  go_wp2_with fail
  obtain ⟨W4, hW4⟩ : ∃ x, x = (((w3.alloc (.cells #[.int .i64 k, .int .i64 pk, .string y, .string m, .string q, .bool (!a), .bool t, .slice ad l.length cp] 54)).alloc (.cells #[.int .i64 k, .int .i64 pk, .string y, .string m, .string q, .bool a, .bool (!t), .slice ad l.length cp] 54)).alloc (.cells #[.int .i64 (bits .xor .i64 k 1), .int .i64 pk, .string y, .string m, .string q, .bool a, .bool t, .slice ad l.length cp] 54)).alloc (.cells #[.int .i64 k, .int .i64 pk, .string y, .string m, .string (q ++ ⟨#[88]⟩), .bool a, .bool t, .slice ad l.length cp] 54) := ⟨_, rfl⟩
  have kw4 : Kp w3 W4 := by rw [hW4]; exact (Kp.alloc _ _).trans ((Kp.alloc _ _).trans ((Kp.alloc _ _).trans (Kp.alloc _ _)))
  have g7 : W4.heap[w3.heap.size + 1]? = some (.cells #[.int .i64 k, .int .i64 pk, .string y, .string m, .string q, .bool a, .bool (!t), .slice ad l.length cp] 54 (0, 0)) := by rw [hW4]; exact heap_block ((Kp.alloc _ _).trans (Kp.alloc _ _)) (heap_at _ _ _ (by simp))
  have g8 : W4.heap[w3.heap.size + 1 + 1]? = some (.cells #[.int .i64 (bits .xor .i64 k 1), .int .i64 pk, .string y, .string m, .string q, .bool a, .bool t, .slice ad l.length cp] 54 (0, 0)) := by rw [hW4]; exact heap_block (Kp.alloc _ _) (heap_at _ _ _ (by simp))
  have g9 : W4.heap[w3.heap.size + 1 + 1 + 1]? = some (.cells #[.int .i64 k, .int .i64 pk, .string y, .string m, .string (q ++ ⟨#[88]⟩), .bool a, .bool t, .slice ad l.length cp] 54 (0, 0)) := by rw [hW4]; exact heap_at _ _ _ (by simp)
  rw [← hW4]
  have GAx := Lib.hid (heap_block kw4 GA.out)
  have GBx := Lib.hid (heap_block kw4 GB.out)
  have K3x := Lib.hid (K3.out.trans kw4)
  clear GA GB K3 n0 n1 n2 n3 l0 l1 l2 l3 x0 x1 x2 x3 x4 x5 x6 x7 kw4 z3 hW4
  have GA := Lib.hid GAx.out
  have GB := Lib.hid GBx.out
  have K3 := Lib.hid K3x.out
  have G7 := Lib.hid g7
  have G8 := Lib.hid g8
  have G9 := Lib.hid g9
  clear g7 g8 g9 GAx GBx K3x hq1
  refine (H6.out _ K3.out).mono ?_
  rintro e w5 ⟨rfl, kk⟩
  have GAx := Lib.hid (heap_block kk GA.out)
  have GBx := Lib.hid (heap_block kk GB.out)
  have G7x := Lib.hid (heap_block kk G7.out)
  have G8x := Lib.hid (heap_block kk G8.out)
  have G9x := Lib.hid (heap_block kk G9.out)
  have K3x := Lib.hid (K3.out.trans kk)
  clear kk K3 GA GB G7 G8 G9
  have GA := Lib.hid GAx.out
  have GB := Lib.hid GBx.out
  have G7 := Lib.hid G7x.out
  have G8 := Lib.hid G8x.out
  have G9 := Lib.hid G9x.out
  have K3 := Lib.hid K3x.out
  clear K3x GAx GBx G7x G8x G9x
  obtain ⟨x0, x1, x2, x3, x4, x5, x6, x7⟩ := row8 GA.out
  obtain ⟨y0, y1, y2, y3, y4, y5, y6, y7⟩ := row8 G7.out
  go_wp2_with fail
  refine (H7.out _ K3.out).mono ?_
  rintro e w6 ⟨rfl, kk⟩
  clear G7
  clear x0 x1 x2 x3 x4 x5 x6 x7 y0 y1 y2 y3 y4 y5 y6 y7
  have GAx := Lib.hid (heap_block kk GA.out)
  have GBx := Lib.hid (heap_block kk GB.out)
  have G8x := Lib.hid (heap_block kk G8.out)
  have G9x := Lib.hid (heap_block kk G9.out)
  have K3x := Lib.hid (K3.out.trans kk)
  clear kk K3 GA GB G8 G9
  have GA := Lib.hid GAx.out
  have GB := Lib.hid GBx.out
  have G8 := Lib.hid G8x.out
  have G9 := Lib.hid G9x.out
  have K3 := Lib.hid K3x.out
  clear K3x GAx GBx G8x G9x
  obtain ⟨x0, x1, x2, x3, x4, x5, x6, x7⟩ := row8 GA.out
  obtain ⟨y0, y1, y2, y3, y4, y5, y6, y7⟩ := row8 G8.out
  go_wp2_with fail
  refine (H8.out _ K3.out).mono ?_
  rintro e w7 ⟨rfl, kk⟩
  clear G8
  clear x0 x1 x2 x3 x4 x5 x6 x7 y0 y1 y2 y3 y4 y5 y6 y7
  have GAx := Lib.hid (heap_block kk GA.out)
  have GBx := Lib.hid (heap_block kk GB.out)
  have G9x := Lib.hid (heap_block kk G9.out)
  have K3x := Lib.hid (K3.out.trans kk)
  clear kk K3 GA GB G9
  have GA := Lib.hid GAx.out
  have GB := Lib.hid GBx.out
  have G9 := Lib.hid G9x.out
  have K3 := Lib.hid K3x.out
  clear K3x GAx GBx G9x
  obtain ⟨x0, x1, x2, x3, x4, x5, x6, x7⟩ := row8 GA.out
  obtain ⟨y0, y1, y2, y3, y4, y5, y6, y7⟩ := row8 G9.out
  go_wp2_with fail
  refine (H9.out _ K3.out).mono ?_
  rintro e w8 ⟨rfl, kk⟩
  clear G9
  clear x0 x1 x2 x3 x4 x5 x6 x7 y0 y1 y2 y3 y4 y5 y6 y7
  have GAx := Lib.hid (heap_block kk GA.out)
  have GBx := Lib.hid (heap_block kk GB.out)
  have K3x := Lib.hid (K3.out.trans kk)
  clear kk K3 GA GB
  have GA := Lib.hid GAx.out
  have GB := Lib.hid GBx.out
  have K3 := Lib.hid K3x.out
  clear K3x GAx GBx
  obtain ⟨x0, x1, x2, x3, x4, x5, x6, x7⟩ := row8 GA.out
  obtain ⟨y0, y1, y2, y3, y4, y5, y6, y7⟩ := row8 GB.out
  go_wp2
  go_loopw [10, 11] (fun s i ws => ∃ (sb : Bool) (j : Nat), j ≤ l.length ∧ s = .bool sb ∧ i = .int .i64 j ∧ Hid (Kp w8 ws) ∧ Hid (sb = true → ∀ x, x < j → sameN (nth l x) (nth l' x) = true) ∧ Hid (sb = false → res = false)) (fun _ i _ => l.length - (intOf i).toNat)
  case atStart => exact ⟨true, 0, Nat.zero_le _, rfl, rfl, Lib.hid (Kp.refl _), Lib.hid (fun _ x hx => by omega), Lib.hid (fun h => by cases h)⟩
  case round =>
    obtain ⟨sb, i, hi, rfl, rfl, KL, LO, LN⟩ := hrel
    clear x0 x1 x2 x3 x4 x5 x6 x7 y0 y1 y2 y3 y4 y5 y6 y7
    cases sb with
    | false =>
      obtain rfl : res = false := LN.out rfl
      have kl := KL.out
      have GAx := Lib.hid (heap_block kl GA.out)
      have GBx := Lib.hid (heap_block kl GB.out)
      have K3x := Lib.hid (K3.out.trans kl)
      clear kl GA GB K3
      have GA := Lib.hid GAx.out
      have GB := Lib.hid GBx.out
      have K3 := Lib.hid K3x.out
      clear GAx GBx K3x
      obtain ⟨x0, x1, x2, x3, x4, x5, x6, x7⟩ := row8 GA.out
      obtain ⟨y0, y1, y2, y3, y4, y5, y6, y7⟩ := row8 GB.out
      go_wp2_with fail
      refine (H1.out _ K3.out).mono ?_
      rintro e w9 ⟨rfl, kk⟩
      clear x0 x1 x2 x3 x4 x5 x6 x7 y0 y1 y2 y3 y4 y5 y6 y7
      have GAx := Lib.hid (heap_block kk GA.out)
      have GBx := Lib.hid (heap_block kk GB.out)
      have K3x := Lib.hid (K3.out.trans kk)
      clear kk K3 GA GB
      have GA := Lib.hid GAx.out
      have GB := Lib.hid GBx.out
      have K3 := Lib.hid K3x.out
      clear K3x GAx GBx
      obtain ⟨x0, x1, x2, x3, x4, x5, x6, x7⟩ := row8 GA.out
      obtain ⟨y0, y1, y2, y3, y4, y5, y6, y7⟩ := row8 GB.out
      go_wp2_with fail
      refine (H2.out _ K3.out).mono ?_
      rintro e w10 ⟨rfl, kk⟩
      have KF := Lib.hid (K3.out.trans kk)
      clear kk
      go_wp2
      go_ret
      exact ⟨rfl, KF.out⟩
    | true =>
      by_cases hlt : i < l.length
      · have hlt2 : i < l'.length := by rw [← HLEN.out]; exact hlt
        obtain ⟨bk, of, vi, rfl, hrow, hsub⟩ := HU.out.get hlt
        obtain ⟨bk', of', vi', rfl, hrow', hsub'⟩ := HV.out.get hlt2
        have kw0 : Kp w wr := K3.out.trans KL.out
        obtain ⟨e0, e1, e2, e3, e4, e5, e6, e7⟩ := hrow.kp kw0
        obtain ⟨d0, d1, d2, d3, d4, d5, d6, d7⟩ := hrow'.kp kw0
        have SAB := Lib.hid (fun (h : res = true) => SA.out.1 h i hlt)
        have c1 : cntN (nth l i) ≤ 1000 := HCT.out i hlt
        obtain ⟨x, hx⟩ : ∃ x, nth l i = x := ⟨_, rfl⟩
        obtain ⟨z, hz⟩ : ∃ x, nth l' i = x := ⟨_, rfl⟩
        rw [hx, hz] at SAB
        rw [hx] at e0 e1 e2 e3 e4 e5 e6 hsub c1
        rw [hz] at d0 d1 d2 d3 d4 d5 d6 hsub'
        have NTH := Lib.hid hx
        have NTZ := Lib.hid hz
        clear hx hz hrow hrow'
        obtain ⟨k1, ⟨pk1, yk1, mk1, qk1⟩, ak1, tk1, lk1⟩ := x
        obtain ⟨j1, ⟨pj1, yj1, mj1, qj1⟩, aj1, tj1, lj1⟩ := z
        have IHc := fun w' (qq : Kp wr w') => tSame_any (.mk k1 ⟨pk1, yk1, mk1, qk1⟩ ak1 tk1 lk1) (.mk j1 ⟨pj1, yj1, mj1, qj1⟩ aj1 tj1 lj1) vi vi' w' (hsub.kp (kw0.trans qq)) (hsub'.kp (kw0.trans qq)) c1
        simp only [ND.k, ND.p, ND.a, ND.t, ND.l] at e0 e1 e2 e3 e4 e5 e6 hsub
        simp only [ND.k, ND.p, ND.a, ND.t, ND.l] at d0 d1 d2 d3 d4 d5 d6 hsub'
        obtain ⟨adk1, cpk1, rfl⟩ := hsub.slice
        obtain ⟨adj1, cpj1, rfl⟩ := hsub'.slice
        obtain ⟨sb, hsb⟩ : ∃ r, sameN (.mk k1 ⟨pk1, yk1, mk1, qk1⟩ ak1 tk1 lk1) (.mk j1 ⟨pj1, yj1, mj1, qj1⟩ aj1 tj1 lj1) = r := ⟨_, rfl⟩
        rw [hsb] at IHc SAB
        have HSB := Lib.hid hsb
        (try unfold ndV at IHc)
        simp only [ND.k, ND.p, ND.a, ND.t, ND.l] at IHc
        have IH := Lib.hid IHc
        have x7 := (row8 (heap_block KL.out GA.out)).2.2.2.2.2.2.2
        have y7 := (row8 (heap_block KL.out GB.out)).2.2.2.2.2.2.2
        have z1 : (i : Int) < (l.length : Int) := by omega
        have z2 : (i : Int) < (l'.length : Int) := by omega
        have z3 : (0 : Int) ≤ (i : Int) := by omega
        have HLT := Lib.hid hlt
        have KS := Lib.hid (fun w' (qq : Kp wr w') => show w'.cell? ⟨bk, of + i * 8, none⟩ = some (.int .i64 k1) ∧ w'.cell? ⟨bk, of + i * 8 + 1, none⟩ = some (.int .i64 pk1) ∧ w'.cell? ⟨bk, of + i * 8 + 2, none⟩ = some (.string yk1) ∧ w'.cell? ⟨bk, of + i * 8 + 3, none⟩ = some (.string mk1) ∧ w'.cell? ⟨bk, of + i * 8 + 4, none⟩ = some (.string qk1) ∧ w'.cell? ⟨bk, of + i * 8 + 5, none⟩ = some (.bool ak1) ∧ w'.cell? ⟨bk, of + i * 8 + 6, none⟩ = some (.bool tk1) ∧ w'.cell? ⟨bk, of + i * 8 + 7, none⟩ = some (.slice adk1 lk1.length cpk1) ∧ w'.cell? ⟨bk', of' + i * 8, none⟩ = some (.int .i64 j1) ∧ w'.cell? ⟨bk', of' + i * 8 + 1, none⟩ = some (.int .i64 pj1) ∧ w'.cell? ⟨bk', of' + i * 8 + 2, none⟩ = some (.string yj1) ∧ w'.cell? ⟨bk', of' + i * 8 + 3, none⟩ = some (.string mj1) ∧ w'.cell? ⟨bk', of' + i * 8 + 4, none⟩ = some (.string qj1) ∧ w'.cell? ⟨bk', of' + i * 8 + 5, none⟩ = some (.bool aj1) ∧ w'.cell? ⟨bk', of' + i * 8 + 6, none⟩ = some (.bool tj1) ∧ w'.cell? ⟨bk', of' + i * 8 + 7, none⟩ = some (.slice adj1 lj1.length cpj1) ∧ w'.cell? ⟨w.heap.size, 7, none⟩ = some (.slice (some ⟨bk, of, none⟩) l.length cp) ∧ w'.cell? ⟨w.heap.size + 1, 7, none⟩ = some (.slice (some ⟨bk', of', none⟩) l'.length cp') ∧ Kp wr w' from ⟨cell_up qq e0, cell_up qq e1, cell_up qq e2, cell_up qq e3, cell_up qq e4, cell_up qq e5, cell_up qq e6, cell_up qq e7, cell_up qq d0, cell_up qq d1, cell_up qq d2, cell_up qq d3, cell_up qq d4, cell_up qq d5, cell_up qq d6, cell_up qq d7, cell_up qq x7, cell_up qq y7, qq⟩)
        clear kw0 hsub hsub' hsb IHc c1
        go_wp2_with fail
        refine wp_region_held_drew (S := fun w' => w'.cell? ⟨bk, of + i * 8, none⟩ = some (.int .i64 k1) ∧ w'.cell? ⟨bk, of + i * 8 + 1, none⟩ = some (.int .i64 pk1) ∧ w'.cell? ⟨bk, of + i * 8 + 2, none⟩ = some (.string yk1) ∧ w'.cell? ⟨bk, of + i * 8 + 3, none⟩ = some (.string mk1) ∧ w'.cell? ⟨bk, of + i * 8 + 4, none⟩ = some (.string qk1) ∧ w'.cell? ⟨bk, of + i * 8 + 5, none⟩ = some (.bool ak1) ∧ w'.cell? ⟨bk, of + i * 8 + 6, none⟩ = some (.bool tk1) ∧ w'.cell? ⟨bk, of + i * 8 + 7, none⟩ = some (.slice adk1 lk1.length cpk1) ∧ w'.cell? ⟨bk', of' + i * 8, none⟩ = some (.int .i64 j1) ∧ w'.cell? ⟨bk', of' + i * 8 + 1, none⟩ = some (.int .i64 pj1) ∧ w'.cell? ⟨bk', of' + i * 8 + 2, none⟩ = some (.string yj1) ∧ w'.cell? ⟨bk', of' + i * 8 + 3, none⟩ = some (.string mj1) ∧ w'.cell? ⟨bk', of' + i * 8 + 4, none⟩ = some (.string qj1) ∧ w'.cell? ⟨bk', of' + i * 8 + 5, none⟩ = some (.bool aj1) ∧ w'.cell? ⟨bk', of' + i * 8 + 6, none⟩ = some (.bool tj1) ∧ w'.cell? ⟨bk', of' + i * 8 + 7, none⟩ = some (.slice adj1 lj1.length cpj1) ∧ w'.cell? ⟨w.heap.size, 7, none⟩ = some (.slice (some ⟨bk, of, none⟩) l.length cp) ∧ w'.cell? ⟨w.heap.size + 1, 7, none⟩ = some (.slice (some ⟨bk', of', none⟩) l'.length cp') ∧ Kp wr w') (by kernel_rfl) ?_ (fun hHeld0 => ?_)
        · (try dsimp only); exact KS.out _ (by first | exact Kp.refl _ | exact Kp.drew _ | assumption)
        refine tkW (v := ?_) 0 sN0 rfl (by kernel_rfl) (by kernel_rfl) (by kernel_rfl) (fun _ _ _ h => h) (by rfl) ?_ (by assumption) ?_
        rotate_left
        · intro w hSw; (try dsimp only at hSw); go_simp; (try with_reducible rfl)
        (try simp only [Act.put, sN0, List.setIfInBounds_toArray, List.set_cons_zero, List.set_cons_succ])
        refine tkW (v := ?_) 1 sN1 rfl (by kernel_rfl) (by kernel_rfl) (by kernel_rfl) (fun _ _ _ h => h) (by rfl) ?_ (by assumption) ?_
        rotate_left
        · intro w hSw; (try dsimp only at hSw); go_simp; (try with_reducible rfl)
        (try simp only [Act.put, sN1, List.setIfInBounds_toArray, List.set_cons_zero, List.set_cons_succ])
        refine tkW (v := ?_) 2 sN2 rfl (by kernel_rfl) (by kernel_rfl) (by kernel_rfl) (fun _ _ _ h => h) (by rfl) ?_ (by assumption) ?_
        rotate_left
        · intro w hSw; (try dsimp only at hSw); go_simp; (try with_reducible rfl)
        (try simp only [Act.put, sN2, List.setIfInBounds_toArray, List.set_cons_zero, List.set_cons_succ])
        refine tkW (v := ?_) 3 sN3 rfl (by kernel_rfl) (by kernel_rfl) (by kernel_rfl) (fun _ _ _ h => h) (by rfl) ?_ (by assumption) ?_
        rotate_left
        · intro w hSw; (try dsimp only at hSw); go_simp; (try with_reducible rfl)
        (try simp only [Act.put, sN3, List.setIfInBounds_toArray, List.set_cons_zero, List.set_cons_succ])
        refine tkW (v := ?_) 4 sN4 rfl (by kernel_rfl) (by kernel_rfl) (by kernel_rfl) (fun _ _ _ h => h) (by rfl) ?_ (by assumption) ?_
        rotate_left
        · intro w hSw; (try dsimp only at hSw); go_simp; (try with_reducible rfl)
        (try simp only [Act.put, sN4, List.setIfInBounds_toArray, List.set_cons_zero, List.set_cons_succ])
        refine tkW (v := ?_) 5 sN5 rfl (by kernel_rfl) (by kernel_rfl) (by kernel_rfl) (fun _ _ _ h => h) (by rfl) ?_ (by assumption) ?_
        rotate_left
        · intro w hSw; (try dsimp only at hSw); go_simp; (try with_reducible rfl)
        (try simp only [Act.put, sN5, List.setIfInBounds_toArray, List.set_cons_zero, List.set_cons_succ])
        refine tkW (v := ?_) 6 sN6 rfl (by kernel_rfl) (by kernel_rfl) (by kernel_rfl) (fun _ _ _ h => h) (by rfl) ?_ (by assumption) ?_
        rotate_left
        · intro w hSw; (try dsimp only at hSw); go_simp; (try with_reducible rfl)
        (try simp only [Act.put, sN6, List.setIfInBounds_toArray, List.set_cons_zero, List.set_cons_succ])
        refine tkW (v := ?_) 7 sN7 rfl (by kernel_rfl) (by kernel_rfl) (by kernel_rfl) (fun _ _ _ h => h) (by rfl) ?_ (by assumption) ?_
        rotate_left
        · intro w hSw; (try dsimp only at hSw); go_simp; (try with_reducible rfl)
        (try simp only [Act.put, sN7, List.setIfInBounds_toArray, List.set_cons_zero, List.set_cons_succ])
        refine tkW (v := ?_) 8 sN8 rfl (by kernel_rfl) (by kernel_rfl) (by kernel_rfl) (fun _ _ _ h => h) (by rfl) ?_ (by assumption) ?_
        rotate_left
        · intro w hSw; (try dsimp only at hSw); go_simp; (try with_reducible rfl)
        (try simp only [Act.put, sN8, List.setIfInBounds_toArray, List.set_cons_zero, List.set_cons_succ])
        refine tkW (v := ?_) 9 sN9 rfl (by kernel_rfl) (by kernel_rfl) (by kernel_rfl) (fun _ _ _ h => h) (by rfl) ?_ (by assumption) ?_
        rotate_left
        · intro w hSw; (try dsimp only at hSw); go_simp; (try with_reducible rfl)
        (try simp only [Act.put, sN9, List.setIfInBounds_toArray, List.set_cons_zero, List.set_cons_succ])
        refine tkE 10 sN10 rfl (by kernel_rfl) (fun K hK => ?_)
        go_simp
        (refine (IH.out _ (by first | exact Kp.refl _ | exact Kp.drew _)).mono ?_; rintro e w9 ⟨rfl, k1⟩; have k2 : Kp wr w9 := Kp.trans (by first | exact Kp.refl _ | exact Kp.drew _) k1; clear k1)
        (try go_wp2_with fail)
        refine hK.out _ _ ?_ (fun hHeld1 => ?_)
        · (try dsimp only); exact KS.out _ (by first | exact Kp.refl _ | exact Kp.drew _ | assumption)
        clear hK K hHeld0
        (try simp only [Act.put, sN10, List.setIfInBounds_toArray, List.set_cons_zero, List.set_cons_succ])
        refine tkW (v := ?_) 11 sN11 rfl (by kernel_rfl) (by kernel_rfl) (by kernel_rfl) (fun _ _ _ h => h) (by rfl) ?_ (by assumption) ?_
        rotate_left
        · intro w hSw; (try dsimp only at hSw); go_simp; (try with_reducible rfl)
        (try simp only [Act.put, sN11, List.setIfInBounds_toArray, List.set_cons_zero, List.set_cons_succ])
        refine wpAnyH_done (by kernel_rfl) ?_ _
        have KL5 := Lib.hid (KL.out.trans k2)
        clear e0 e1 e2 e3 e4 e5 e6 e7 d0 d1 d2 d3 d4 d5 d6 d7 x7 y7
        go_wp2
        go_roundw
        case rel => exact ⟨sb, i + 1, HLT.out, rfl, by go_num, KL5, Lib.hid (fun hsb x hx => by
          by_cases hxi : x < i
          · exact LO.out (by simp) x hxi
          · obtain rfl : x = i := by omega
            rw [NTH.out, NTZ.out, HSB.out]; exact hsb), Lib.hid (fun h => by
          subst h
          cases res with
          | false => rfl
          | true => exact absurd (SAB.out rfl) (by decide))⟩
        case measure => have := HLT.out; simp [intOf]; omega
      · obtain rfl : i = l.length := by omega
        obtain rfl : res = true := SA.out.2 (LO.out rfl)
        have kl := KL.out
        have GAx := Lib.hid (heap_block kl GA.out)
        have GBx := Lib.hid (heap_block kl GB.out)
        have K3x := Lib.hid (K3.out.trans kl)
        clear kl GA GB K3
        have GA := Lib.hid GAx.out
        have GB := Lib.hid GBx.out
        have K3 := Lib.hid K3x.out
        clear GAx GBx K3x
        obtain ⟨x0, x1, x2, x3, x4, x5, x6, x7⟩ := row8 GA.out
        obtain ⟨y0, y1, y2, y3, y4, y5, y6, y7⟩ := row8 GB.out
        go_wp2_with fail
        refine (H1.out _ K3.out).mono ?_
        rintro e w9 ⟨rfl, kk⟩
        clear x0 x1 x2 x3 x4 x5 x6 x7 y0 y1 y2 y3 y4 y5 y6 y7
        have GAx := Lib.hid (heap_block kk GA.out)
        have GBx := Lib.hid (heap_block kk GB.out)
        have K3x := Lib.hid (K3.out.trans kk)
        clear kk K3 GA GB
        have GA := Lib.hid GAx.out
        have GB := Lib.hid GBx.out
        have K3 := Lib.hid K3x.out
        clear K3x GAx GBx
        obtain ⟨x0, x1, x2, x3, x4, x5, x6, x7⟩ := row8 GA.out
        obtain ⟨y0, y1, y2, y3, y4, y5, y6, y7⟩ := row8 GB.out
        go_wp2_with fail
        refine (H2.out _ K3.out).mono ?_
        rintro e w10 ⟨rfl, kk⟩
        have KF := Lib.hid (K3.out.trans kk)
        clear kk
        go_wp2
        go_ret
        exact ⟨rfl, KF.out⟩
end Go.Proofs.YtbjnghmmfolaeaaDoor
