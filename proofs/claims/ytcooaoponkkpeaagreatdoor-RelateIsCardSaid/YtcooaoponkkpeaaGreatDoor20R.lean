import Derived.Test.YtcooaoponkkpeaaGreatDoorJQc
import Derived.Test.YtcooaoponkkpeaaGreatDoorJA
set_option maxHeartbeats 16000000
set_option maxRecDepth 100000
namespace Go.Proofs.YtcooaoponkkpeaaGreatDoor
open Go.RowKit Go.Shelf
set_option linter.unusedVariables false
set_option linter.unusedSimpArgs false
abbrev qgA0 : Oper := ⟨some 21, .fieldAddr 57 (.tmp 2) 1, 0, "ref.go:108", #[], none⟩
abbrev qgA1 : Oper := ⟨some 22, .load 34 (.tmp 21), 34, "ref.go:108", #[⟨0, .data⟩], none⟩
abbrev qgA2 : Oper := ⟨some 23, .fieldAddr 57 (.tmp 3) 1, 0, "ref.go:108", #[], none⟩
abbrev qgA3 : Oper := ⟨some 24, .load 34 (.tmp 23), 34, "ref.go:108", #[⟨2, .data⟩], none⟩
abbrev qgA4 : Oper := ⟨some 25, .call ⟨.value (.func 122), #[.tmp 24], #[34]⟩, 3, "ref.go:108", #[⟨3, .data⟩], none⟩
abbrev qgA5 : Oper := ⟨some 26, .binOp .add 3 (.tmp 25) (.const (.int .i64 1)) 3, 3, "ref.go:108", #[⟨4, .data⟩], none⟩
abbrev qgA6 : Oper := ⟨some 27, .call ⟨.value (.func 125), #[.tmp 22, .tmp 26], #[34, 3]⟩, 113, "ref.go:108", #[⟨1, .data⟩, ⟨5, .data⟩, ⟨4, .chain⟩], none⟩
abbrev qgA7 : Oper := ⟨some 20, .move (.tmp 27), 113, "ref.go:108", #[⟨6, .data⟩], none⟩
abbrev qgA8 : Oper := ⟨some 28, .extract (.tmp 20) 0, 3, "ref.go:108", #[⟨7, .data⟩], none⟩
abbrev qgA9 : Oper := { dst := some 29, op := Go.Op.extract (Go.Operand.tmp 20) 1, type := 4, pos := "ref.go:108", after := #[{ on := 7, ground := Go.Ground.data }, { on := 10, ground := Go.Ground.gcOnly Go.Departure.lateStores }], guard := none }
abbrev qgA10 : Oper := { dst := some 7, op := Go.Op.assign (Go.Operand.tmp 28), type := 3, pos := "ref.go:108", after := #[{ on := 8, ground := Go.Ground.data }, { on := 6, ground := Go.Ground.chain }, { on := 0, ground := Go.Ground.phase }, { on := 1, ground := Go.Ground.phase }, { on := 2, ground := Go.Ground.phase }, { on := 3, ground := Go.Ground.phase }, { on := 4, ground := Go.Ground.phase }, { on := 5, ground := Go.Ground.phase }, { on := 6, ground := Go.Ground.phase }, { on := 7, ground := Go.Ground.phase }, { on := 8, ground := Go.Ground.phase }, { on := 9, ground := Go.Ground.textOnly Go.Departure.lateStores }], guard := none }
abbrev qgA11 : Oper := ⟨some 8, .assign (.tmp 29), 4, "ref.go:108", #[⟨9, .data⟩, ⟨10, .chain⟩, ⟨0, .phase⟩, ⟨1, .phase⟩, ⟨2, .phase⟩, ⟨3, .phase⟩, ⟨4, .phase⟩, ⟨5, .phase⟩, ⟨6, .phase⟩, ⟨7, .phase⟩, ⟨8, .phase⟩, ⟨9, .phase⟩, ⟨10, .phase⟩], none⟩
abbrev qgB0 : Oper := ⟨some 30, .load 57 (.tmp 2), 57, "ref.go:109", #[], none⟩
abbrev qgB1 : Oper := ⟨some 31, .load 57 (.tmp 3), 57, "ref.go:109", #[], none⟩
abbrev qgB2 : Oper := ⟨some 32, .call ⟨.value (.func 64), #[.tmp 30, .tmp 31], #[57, 57]⟩, 3, "ref.go:109", #[⟨0, .data⟩, ⟨1, .data⟩], none⟩
abbrev qgB3 : Oper := ⟨some 33, .load 57 (.tmp 3), 57, "ref.go:109", #[], none⟩
abbrev qgB4 : Oper := ⟨some 34, .load 57 (.tmp 2), 57, "ref.go:109", #[], none⟩
abbrev qgB5 : Oper := ⟨some 35, .call ⟨.value (.func 64), #[.tmp 33, .tmp 34], #[57, 57]⟩, 3, "ref.go:109", #[⟨3, .data⟩, ⟨4, .data⟩, ⟨2, .chain⟩], none⟩
abbrev qgB6 : Oper := ⟨some 36, .call ⟨.value (.func 65), #[.tmp 35], #[3]⟩, 3, "ref.go:109", #[⟨5, .data⟩, ⟨5, .chain⟩], none⟩
abbrev qgB7 : Oper := ⟨some 37, .binOp .or 3 (.tmp 32) (.tmp 36) 3, 3, "ref.go:109", #[⟨2, .data⟩, ⟨6, .data⟩], none⟩
abbrev qgB8 : Oper := ⟨some 9, .assign (.tmp 37), 3, "ref.go:109", #[⟨7, .data⟩, ⟨6, .chain⟩, ⟨0, .phase⟩, ⟨1, .phase⟩, ⟨2, .phase⟩, ⟨3, .phase⟩, ⟨4, .phase⟩, ⟨5, .phase⟩, ⟨6, .phase⟩, ⟨7, .phase⟩], none⟩
abbrev qgC0 : Oper := ⟨some 38, .move (.tmp 9), 3, "ref.go:110", #[], none⟩
abbrev qgC1 : Oper := ⟨some 39, .move (.tmp 5), 34, "ref.go:110", #[], none⟩
abbrev qgC2 : Oper := ⟨some 40, .call ⟨.builtin .len, #[.tmp 39], #[34]⟩, 3, "ref.go:110", #[⟨1, .data⟩], none⟩
abbrev qgC3 : Oper := ⟨some 41, .binOp .gtr 3 (.tmp 40) (.const (.int .i64 0)) 3, 4, "ref.go:110", #[⟨2, .data⟩], none⟩
abbrev qgC4 : Oper := ⟨some 42, .move (.tmp 41), 4, "ref.go:110", #[⟨3, .data⟩], none⟩
abbrev qgC5 : Oper := ⟨some 43, .move (.tmp 5), 34, "ref.go:110", #[⟨4, .guard⟩], some (4, true)⟩
abbrev qgC6 : Oper := ⟨some 44, .call ⟨.value (.func 122), #[.tmp 43], #[34]⟩, 3, "ref.go:110", #[⟨5, .data⟩, ⟨4, .chain⟩, ⟨4, .guard⟩], some (4, true)⟩
abbrev qgC7 : Oper := ⟨some 45, .fieldAddr 57 (.tmp 3) 2, 0, "ref.go:110", #[⟨4, .guard⟩], some (4, true)⟩
abbrev qgC8 : Oper := ⟨some 46, .load 34 (.tmp 45), 34, "ref.go:110", #[⟨7, .data⟩, ⟨4, .guard⟩], some (4, true)⟩
abbrev qgC9 : Oper := ⟨some 47, .call ⟨.value (.func 123), #[.tmp 46], #[34]⟩, 3, "ref.go:110", #[⟨8, .data⟩, ⟨6, .chain⟩, ⟨4, .guard⟩], some (4, true)⟩
abbrev qgC10 : Oper := ⟨some 48, .binOp .lss 3 (.tmp 44) (.tmp 47) 3, 4, "ref.go:110", #[⟨6, .data⟩, ⟨9, .data⟩, ⟨4, .guard⟩], some (4, true)⟩
abbrev qgC11 : Oper := ⟨some 49, .pick (.tmp 42) (.tmp 48) (.const (.bool false)), 4, "ref.go:110", #[⟨4, .data⟩, ⟨10, .data⟩], none⟩
abbrev qgC12 : Oper := ⟨some 50, .call ⟨.value (.func 66), #[.const (.int .i64 3), .tmp 49], #[3, 4]⟩, 3, "ref.go:110", #[⟨11, .data⟩, ⟨9, .chain⟩], none⟩
abbrev qgC13 : Oper := ⟨some 51, .binOp .or 3 (.tmp 38) (.tmp 50) 3, 3, "ref.go:110", #[⟨0, .data⟩, ⟨12, .data⟩], none⟩
abbrev qgC14 : Oper := ⟨some 52, .move (.tmp 8), 4, "ref.go:110", #[], none⟩
abbrev qgC15 : Oper := ⟨some 53, .move (.tmp 52), 4, "ref.go:110", #[⟨14, .data⟩, ⟨12, .chain⟩], none⟩
abbrev qgC16 : Oper := ⟨some 54, .move (.tmp 7), 3, "ref.go:110", #[⟨15, .guard⟩], some (15, true)⟩
abbrev qgC17 : Oper := ⟨some 55, .fieldAddr 57 (.tmp 3) 2, 0, "ref.go:110", #[⟨15, .guard⟩], some (15, true)⟩
abbrev qgC18 : Oper := ⟨some 56, .load 34 (.tmp 55), 34, "ref.go:110", #[⟨17, .data⟩, ⟨15, .guard⟩], some (15, true)⟩
abbrev qgC19 : Oper := ⟨some 57, .call ⟨.value (.func 123), #[.tmp 56], #[34]⟩, 3, "ref.go:110", #[⟨18, .data⟩, ⟨15, .chain⟩, ⟨15, .guard⟩], some (15, true)⟩
abbrev qgC20 : Oper := ⟨some 58, .binOp .lss 3 (.tmp 54) (.tmp 57) 3, 4, "ref.go:110", #[⟨16, .data⟩, ⟨19, .data⟩, ⟨15, .guard⟩], some (15, true)⟩
abbrev qgC21 : Oper := ⟨some 59, .pick (.tmp 53) (.tmp 58) (.const (.bool false)), 4, "ref.go:110", #[⟨15, .data⟩, ⟨20, .data⟩], none⟩
abbrev qgC22 : Oper := ⟨some 60, .call ⟨.value (.func 66), #[.const (.int .i64 4), .tmp 59], #[3, 4]⟩, 3, "ref.go:110", #[⟨21, .data⟩, ⟨19, .chain⟩], none⟩
abbrev qgC23 : Oper := ⟨some 61, .binOp .or 3 (.tmp 51) (.tmp 60) 3, 3, "ref.go:110", #[⟨13, .data⟩, ⟨22, .data⟩], none⟩
abbrev qgC24 : Oper := ⟨some 9, .assign (.tmp 61), 3, "ref.go:110", #[⟨23, .data⟩, ⟨22, .chain⟩, ⟨0, .phase⟩, ⟨1, .phase⟩, ⟨2, .phase⟩, ⟨3, .phase⟩, ⟨4, .phase⟩, ⟨5, .phase⟩, ⟨6, .phase⟩, ⟨7, .phase⟩, ⟨8, .phase⟩, ⟨9, .phase⟩, ⟨10, .phase⟩, ⟨11, .phase⟩, ⟨12, .phase⟩, ⟨13, .phase⟩, ⟨14, .phase⟩, ⟨15, .phase⟩, ⟨16, .phase⟩, ⟨17, .phase⟩, ⟨18, .phase⟩, ⟨19, .phase⟩, ⟨20, .phase⟩, ⟨21, .phase⟩, ⟨22, .phase⟩, ⟨23, .phase⟩], none⟩
abbrev qgD0 : Oper := ⟨some 62, .move (.tmp 9), 3, "ref.go:111", #[], none⟩
abbrev qgD1 : Oper := ⟨some 63, .move (.tmp 6), 34, "ref.go:111", #[], none⟩
abbrev qgD2 : Oper := ⟨some 64, .call ⟨.builtin .len, #[.tmp 63], #[34]⟩, 3, "ref.go:111", #[⟨1, .data⟩], none⟩
abbrev qgD3 : Oper := ⟨some 65, .binOp .gtr 3 (.tmp 64) (.const (.int .i64 0)) 3, 4, "ref.go:111", #[⟨2, .data⟩], none⟩
abbrev qgD4 : Oper := ⟨some 66, .move (.tmp 65), 4, "ref.go:111", #[⟨3, .data⟩], none⟩
abbrev qgD5 : Oper := ⟨some 67, .move (.tmp 6), 34, "ref.go:111", #[⟨4, .guard⟩], some (4, true)⟩
abbrev qgD6 : Oper := ⟨some 68, .call ⟨.value (.func 123), #[.tmp 67], #[34]⟩, 3, "ref.go:111", #[⟨5, .data⟩, ⟨4, .chain⟩, ⟨4, .guard⟩], some (4, true)⟩
abbrev qgD7 : Oper := ⟨some 69, .fieldAddr 57 (.tmp 3) 1, 0, "ref.go:111", #[⟨4, .guard⟩], some (4, true)⟩
abbrev qgD8 : Oper := ⟨some 70, .load 34 (.tmp 69), 34, "ref.go:111", #[⟨7, .data⟩, ⟨4, .guard⟩], some (4, true)⟩
abbrev qgD9 : Oper := ⟨some 71, .call ⟨.value (.func 122), #[.tmp 70], #[34]⟩, 3, "ref.go:111", #[⟨8, .data⟩, ⟨6, .chain⟩, ⟨4, .guard⟩], some (4, true)⟩
abbrev qgD10 : Oper := ⟨some 72, .binOp .gtr 3 (.tmp 68) (.tmp 71) 3, 4, "ref.go:111", #[⟨6, .data⟩, ⟨9, .data⟩, ⟨4, .guard⟩], some (4, true)⟩
abbrev qgD11 : Oper := ⟨some 73, .pick (.tmp 66) (.tmp 72) (.const (.bool false)), 4, "ref.go:111", #[⟨4, .data⟩, ⟨10, .data⟩], none⟩
abbrev qgD12 : Oper := ⟨some 74, .call ⟨.value (.func 66), #[.const (.int .i64 5), .tmp 73], #[3, 4]⟩, 3, "ref.go:111", #[⟨11, .data⟩, ⟨9, .chain⟩], none⟩
abbrev qgD13 : Oper := ⟨some 75, .binOp .or 3 (.tmp 62) (.tmp 74) 3, 3, "ref.go:111", #[⟨0, .data⟩, ⟨12, .data⟩], none⟩
abbrev qgD14 : Oper := ⟨some 76, .move (.tmp 5), 34, "ref.go:111", #[], none⟩
abbrev qgD15 : Oper := ⟨some 77, .move (.tmp 6), 34, "ref.go:111", #[], none⟩
abbrev qgD16 : Oper := ⟨some 78, .call ⟨.value (.func 67), #[.tmp 76, .tmp 77], #[34, 34]⟩, 34, "ref.go:111", #[⟨14, .data⟩, ⟨15, .data⟩, ⟨12, .chain⟩], none⟩
abbrev qgD17 : Oper := ⟨some 79, .call ⟨.builtin .len, #[.tmp 78], #[34]⟩, 3, "ref.go:111", #[⟨16, .data⟩], none⟩
abbrev qgD18 : Oper := ⟨some 80, .binOp .gtr 3 (.tmp 79) (.const (.int .i64 0)) 3, 4, "ref.go:111", #[⟨17, .data⟩], none⟩
abbrev qgD19 : Oper := ⟨some 81, .call ⟨.value (.func 66), #[.const (.int .i64 6), .tmp 80], #[3, 4]⟩, 3, "ref.go:111", #[⟨18, .data⟩, ⟨16, .chain⟩], none⟩
abbrev qgD20 : Oper := ⟨some 82, .binOp .or 3 (.tmp 75) (.tmp 81) 3, 3, "ref.go:111", #[⟨13, .data⟩, ⟨19, .data⟩], none⟩
abbrev qgD21 : Oper := ⟨some 4, .assign (.tmp 82), 3, "ref.go:111", #[⟨20, .data⟩, ⟨19, .chain⟩, ⟨0, .phase⟩, ⟨1, .phase⟩, ⟨2, .phase⟩, ⟨3, .phase⟩, ⟨4, .phase⟩, ⟨5, .phase⟩, ⟨6, .phase⟩, ⟨7, .phase⟩, ⟨8, .phase⟩, ⟨9, .phase⟩, ⟨10, .phase⟩, ⟨11, .phase⟩, ⟨12, .phase⟩, ⟨13, .phase⟩, ⟨14, .phase⟩, ⟨15, .phase⟩, ⟨16, .phase⟩, ⟨17, .phase⟩, ⟨18, .phase⟩, ⟨19, .phase⟩, ⟨20, .phase⟩], none⟩
theorem qsing_any {d d' : Bool} {A B C D : List R} (va vb vc vd : Value) (w : World) (ha : RunsAt w va A) (hb : RunsAt w vb B) (hc : RunsAt w vc C) (hd : RunsAt w vd D) (H : LsOkP d A B) (H' : LsOkP d' C D) (nA : A.length ≤ 1000) (nB : B.length ≤ 1000) (nC : C.length ≤ 1000) (nD : D.length ≤ 1000) :
  Calls Tryz.prog 68 #[.agg #[.bool d, va, vb], .agg #[.bool d', vc, vd]] w fun e w' => e = .returned (.int .i64 (siM A B C D : Nat)) ∧ Kp w w' := by
 have N0 := Hd (show (0 : Nat) = 0 from rfl)
 have G0 := Hd (show RunsAt w va A ∧ RunsAt w vb B ∧ RunsAt w vc C ∧ RunsAt w vd D from ⟨ha, hb, hc, hd⟩)
 obtain ⟨aa, ca, rfl⟩ := ha.slice
 obtain ⟨ab, cb, rfl⟩ := hb.slice
 obtain ⟨ac, cc, rfl⟩ := hc.slice
 obtain ⟨ad, cd, rfl⟩ := hd.slice
 obtain ⟨v0, hV⟩ : ∃ x, x = (w.alloc (.cells #[.bool d, .slice aa A.length ca, .slice ab B.length cb] 57)).alloc (.cells #[.bool d', .slice ac C.length cc, .slice ad D.length cd] 57) := ⟨_, rfl⟩
 have ka : Kp w v0 := by rw [hV]; exact (Kp.alloc _ _).trans (Kp.alloc _ _)
 have gf : v0.heap[w.heap.size]? = some (.cells #[.bool d, .slice aa A.length ca, .slice ab B.length cb] 57 (0, 0)) := by rw [hV]; exact heap_block (Kp.alloc _ _) (heap_at _ _ _ rfl)
 have gg : v0.heap[w.heap.size + 1]? = some (.cells #[.bool d', .slice ac C.length cc, .slice ad D.length cd] 57 (0, 0)) := by rw [hV]; exact heap_at _ _ _ (by simp)
 have KS := Hd (fun w' (kq : Kp v0 w') => show w'.cell? ⟨w.heap.size, 0, none⟩ = some (.bool d) ∧ w'.cell? ⟨w.heap.size, 1, none⟩ = some (.slice aa A.length ca) ∧ w'.cell? ⟨w.heap.size, 2, none⟩ = some (.slice ab B.length cb) ∧ w'.cell? ⟨w.heap.size + 1, 0, none⟩ = some (.bool d') ∧ w'.cell? ⟨w.heap.size + 1, 1, none⟩ = some (.slice ac C.length cc) ∧ w'.cell? ⟨w.heap.size + 1, 2, none⟩ = some (.slice ad D.length cd) ∧ Kp v0 w' from ⟨(row3 (heap_block kq gf)).1, (row3 (heap_block kq gf)).2.1, (row3 (heap_block kq gf)).2.2, (row3 (heap_block kq gg)).1, (row3 (heap_block kq gg)).2.1, (row3 (heap_block kq gg)).2.2, kq⟩)
 have HV := Hd hV
 have KA := Hd ka
 have ha := ha.kp ka
 have hb := hb.kp ka
 have hc := hc.kp ka
 have hd := hd.kp ka
 have bA0 := H.ba _ H.lo.1
 have bB0 := H.bb _ H.lo.2.2.2.1
 have bA1 := H.ba _ H.hi.2.2.2.1
 have bB1 := H.bb _ H.hi.1
 have bC0 := H'.ba _ H'.lo.1
 have bD0 := H'.bb _ H'.lo.2.2.2.1
 have bC1 := H'.ba _ H'.hi.2.2.2.1
 have bD1 := H'.bb _ H'.hi.1
 have MS := Hd (fun w1 (k : Kp v0 w1) => rmeet_any _ _ A C w1 (ha.kp k) (hc.kp k) (sane_i64 H.sa) (sane_i64 H'.sa) (by omega) (by omega))
 have MT := Hd (fun w1 (k : Kp v0 w1) => rmeet_any _ _ A D w1 (ha.kp k) (hd.kp k) (sane_i64 H.sa) (sane_i64 H'.sb) (by omega) (by omega))
 have n1 := interR_len H.sa H'.sa
 have n2 := interR_len H.sa H'.sb
 have ME := Hd (fun u v w1 (h : RunsAt w1 u (interR A C)) (g : RunsAt w1 v (interR A D)) => rmeet_any u v _ _ w1 h g (sane_i64 (interR_sane _ _)) (sane_i64 (interR_sane _ _)) (by omega) (by omega))
 have LC := Hd (fun w1 (k : Kp v0 w1) => qlow_any _ C w1 (hc.kp k) H'.na)
 have GD := Hd (fun w1 (k : Kp v0 w1) => qhigh_any _ D w1 (hd.kp k) H'.nb (by omega))
 have NX := Hd (fun w1 (k : Kp v0 w1) => rnext_of _ A (leastR C + 1) w1 (by have := asR_any _ A w1 (ha.kp k) (sane_i64 H.sa) (by omega); rwa [nf_of_sane H.sa] at this) (by omega))
 have LE := Hd (fun v w1 (h : RunsAt w1 v (interR A C)) (h0 : 0 < (interR A C).length) => qlow_any v _ w1 h h0)
 have GF := Hd (fun v w1 (h : RunsAt w1 v (interR A D)) (h0 : 0 < (interR A D).length) => qhigh_any v _ w1 h h0 (by omega))
 have AP := Hd (fun w1 (k : Kp v0 w1) => qapart_any (.slice aa A.length ca) (.slice ab B.length cb) (.slice ac C.length cc) (.slice ad D.length cd) w1 (hb.kp k) (hc.kp k) H H' nB nC)
 have AQ := Hd (fun w1 (k : Kp v0 w1) => qapart_any (.slice ac C.length cc) (.slice ad D.length cd) (.slice aa A.length ca) (.slice ab B.length cb) w1 (hd.kp k) (ha.kp k) H' H nD nA)
 have FL := Hd (fun (w1 : World) => refFlip_any ((apM D A : Nat) : Int) w1)
 rw [flN_int] at FL
 have Q3 := Hd (fun (b : Bool) (w1 : World) => (show Calls Tryz.prog 66 #[.int .i64 3, .bool b] w1 fun e w' => e = .returned (.int .i64 (btQ 3 b : Nat)) ∧ w1 = w' from qbit_any 3 (by decide) b w1))
 have Q4 := Hd (fun (b : Bool) (w1 : World) => (show Calls Tryz.prog 66 #[.int .i64 4, .bool b] w1 fun e w' => e = .returned (.int .i64 (btQ 4 b : Nat)) ∧ w1 = w' from qbit_any 4 (by decide) b w1))
 have Q5 := Hd (fun (b : Bool) (w1 : World) => (show Calls Tryz.prog 66 #[.int .i64 5, .bool b] w1 fun e w' => e = .returned (.int .i64 (btQ 5 b : Nat)) ∧ w1 = w' from qbit_any 5 (by decide) b w1))
 have Q6 := Hd (fun (b : Bool) (w1 : World) => (show Calls Tryz.prog 66 #[.int .i64 6, .bool b] w1 fun e w' => e = .returned (.int .i64 (btQ 6 b : Nat)) ∧ w1 = w' from qbit_any 6 (by decide) b w1))
 have wl : IntKind.i64.wrap (leastR C + 1) = leastR C + 1 := by rw [IntKind.wrap_i64]; omega
 have L0 := apM_lt B C
 unfold siM
 have P0 := ak_or L0 (flN_lt (apM D A))
 have L1 := bt_orlt L0 (flN_lt (apM D A))
 generalize apM B C ||| flN (apM D A) = m1 at *
 generalize flN (apM D A) = f0 at *
 generalize apM B C = m0 at *
 generalize apM D A = g0 at *
 obtain ⟨o3, h3⟩ : ∃ x, s3B A C D = x := ⟨_, rfl⟩
 rw [h3]
 have P3 := ak_or L1 (bt_lt (k := 3) (by decide) o3)
 have L2 := bt_orlt L1 (bt_lt (k := 3) (by decide) o3)
 generalize m1 ||| btQ 3 o3 = m2 at *
 obtain ⟨o4, h4⟩ : ∃ x, s4B A C D = x := ⟨_, rfl⟩
 rw [h4]
 have P4 := ak_or L2 (bt_lt (k := 4) (by decide) o4)
 have L3 := bt_orlt L2 (bt_lt (k := 4) (by decide) o4)
 generalize m2 ||| btQ 4 o4 = m3 at *
 obtain ⟨o5, h5⟩ : ∃ x, s5B A C D = x := ⟨_, rfl⟩
 rw [h5]
 have P5 := ak_or L3 (bt_lt (k := 5) (by decide) o5)
 have L4 := bt_orlt L3 (bt_lt (k := 5) (by decide) o5)
 generalize m3 ||| btQ 5 o5 = m4 at *
 obtain ⟨o6, h6⟩ : ∃ x, s6B A C D = x := ⟨_, rfl⟩
 rw [h6]
 have P6 := ak_or L4 (bt_lt (k := 6) (by decide) o6)
 have L5 := bt_orlt L4 (bt_lt (k := 6) (by decide) o6)
 generalize m4 ||| btQ 6 o6 = m5 at *
 unfold s3B at h3
 unfold s4B at h4
 unfold s5B at h5
 unfold s6B at h6
 generalize nxt A (leastR C + 1) = n at *
 obtain ⟨y1, y2⟩ := n
 simp only at NX h4
 generalize interR (interR A C) (interR A D) = M at *
 generalize leastR (interR A C) = le at *
 generalize greatR (interR A D) = gF at *
 generalize interR A C = E at *
 generalize interR A D = F at *
 generalize leastR C = lc at *
 generalize greatR D = gd at *
 have G3 := Hd h3
 have G4 := Hd h4
 have G5 := Hd h5
 have gl : decide ((M.length : Int) > 0) = o6 := by rw [← h6]; exact decide_eq_decide.2 (by omega)
 have gl' : decide ((0 : Int) < (M.length : Int)) = o6 := by rw [← h6]; exact decide_eq_decide.2 (by omega)
 clear h3 h4 h5 L0 L1 L2 L3 L4 L5 n1 n2
 clear ha hb hc hd H H' bA0 bB0 bA1 bB1 bC0 bD0 bC1 bD1 nA nB nC nD hV gf gg ka G0 N0
 have kkv0 : Kp v0 v0 := Kp.refl _
 go_enter Tryz.func68, Tryz.ntmps68
 go_upto_region 1 with fail
 rw [← HV.out]
 clear HV
 obtain ⟨x0, x1, x2, x3, x4, x5, _⟩ := KS.out _ kkv0
 go_wp2_with fail
 refine (MS.out _ kkv0).mono ?_
 rintro e wa ⟨v1, rfl, o1, k1⟩
 have kkwa : Kp v0 wa := k1
 obtain ⟨a1, c1, rfl⟩ := o1.slice
 clear x0 x1 x2 x3 x4 x5
 obtain ⟨x0, x1, x2, x3, x4, x5, _⟩ := KS.out _ kkwa
 go_wp2_with fail
 refine (MT.out _ kkwa).mono ?_
 rintro e wb ⟨v2, rfl, o2, k2⟩
 have kv : Kp v0 wb := kkwa.trans k2
 obtain ⟨a2, c2, rfl⟩ := o2.slice
 have O1 := Hd (fun w' (k : Kp wb w') => (o1.kp k2).kp k)
 have O2 := Hd (fun w' (k : Kp wb w') => o2.kp k)
 have KV := Hd kv
 clear x0 x1 x2 x3 x4 x5
 have KT := Hd (fun w' (k : Kp wb w') => show w'.cell? ⟨w.heap.size, 0, none⟩ = some (.bool d) ∧ w'.cell? ⟨w.heap.size, 1, none⟩ = some (.slice aa A.length ca) ∧ w'.cell? ⟨w.heap.size, 2, none⟩ = some (.slice ab B.length cb) ∧ w'.cell? ⟨w.heap.size + 1, 0, none⟩ = some (.bool d') ∧ w'.cell? ⟨w.heap.size + 1, 1, none⟩ = some (.slice ac C.length cc) ∧ w'.cell? ⟨w.heap.size + 1, 2, none⟩ = some (.slice ad D.length cd) ∧ Kp wb w' from ⟨(KS.out w' (kv.trans k)).1, (KS.out w' (kv.trans k)).2.1, (KS.out w' (kv.trans k)).2.2.1, (KS.out w' (kv.trans k)).2.2.2.1, (KS.out w' (kv.trans k)).2.2.2.2.1, (KS.out w' (kv.trans k)).2.2.2.2.2.1, k⟩)
 clear o1 o2 k1 k2 kv kkwa kkv0
 have kkwb : Kp wb wb := Kp.refl _
 go_upto_region 3 with fail
 refine wp_region_held_drew (S := fun w' => w'.cell? ⟨w.heap.size, 0, none⟩ = some (.bool d) ∧ w'.cell? ⟨w.heap.size, 1, none⟩ = some (.slice aa A.length ca) ∧ w'.cell? ⟨w.heap.size, 2, none⟩ = some (.slice ab B.length cb) ∧ w'.cell? ⟨w.heap.size + 1, 0, none⟩ = some (.bool d') ∧ w'.cell? ⟨w.heap.size + 1, 1, none⟩ = some (.slice ac C.length cc) ∧ w'.cell? ⟨w.heap.size + 1, 2, none⟩ = some (.slice ad D.length cd) ∧ Kp wb w') (by kernel_rfl) ?_ (fun hHeld0 => ?_)
 ·(try dsimp only); exact KT.out _ (ky kkwb)
 refine tkv 0 qgA0 ?_
 (try simp only [Act.put, qgA0, xA, xB, xC])
 refine tkv 1 qgA1 ?_
 (try simp only [Act.put, qgA1, xA, xB, xC])
 refine tkv 2 qgA2 ?_
 (try simp only [Act.put, qgA2, xA, xB, xC])
 refine tkv 3 qgA3 ?_
 (try simp only [Act.put, qgA3, xA, xB, xC])
 refine tkE 4 qgA4 rfl (by kernel_rfl) (fun K hK => ?_)
 go_simp
 (refine (LC.out _ (KV.out.trans (ky kkwb))).mono ?_; rintro e w' ⟨rfl, rfl⟩)
 (try go_wp2_with fail)
 refine hK.out _ _ ?_ (fun hHeld1 => ?_)
 ·(try dsimp only); exact KT.out _ (ky kkwb)
 clear hK K hHeld0
 (try simp only [Act.put, qgA4, xA, xB, xC])
 refine tkv 5 qgA5 ?_
 (try simp only [Act.put, qgA5, xA, xB, xC])
 refine tkE 6 qgA6 rfl (by kernel_rfl) (fun K hK => ?_)
 go_simp
 (refine (NX.out _ (KV.out.trans (ky kkwb))).mono ?_; rintro e wc ⟨rfl, kq1⟩; have kkwc : Kp wb wc := Kp.trans (show Kp wb _ from (ky kkwb)) kq1; clear kq1)
 (try go_wp2_with fail)
 refine hK.out _ _ ?_ (fun hHeld2 => ?_)
 ·(try dsimp only); exact KT.out _ (ky kkwc)
 clear hK K hHeld1
 (try simp only [Act.put, qgA6, xA, xB, xC])
 refine tkv 7 qgA7 ?_
 (try simp only [Act.put, qgA7, xA, xB, xC])
 refine tkv 8 qgA8 ?_
 (try simp only [Act.put, qgA8, xA, xB, xC])
 refine tkv 9 qgA9 ?_
 (try simp only [Act.put, qgA9, xA, xB, xC])
 refine tkv 10 qgA10 ?_
 (try simp only [Act.put, qgA10, xA, xB, xC])
 refine tkv 11 qgA11 ?_
 (try simp only [Act.put, qgA11, xA, xB, xC])
 refine wpAnyH_done (by kernel_rfl) ?_ _
 go_upto_region 4 with fail
 refine wp_region_held_drew (S := fun w' => w'.cell? ⟨w.heap.size, 0, none⟩ = some (.bool d) ∧ w'.cell? ⟨w.heap.size, 1, none⟩ = some (.slice aa A.length ca) ∧ w'.cell? ⟨w.heap.size, 2, none⟩ = some (.slice ab B.length cb) ∧ w'.cell? ⟨w.heap.size + 1, 0, none⟩ = some (.bool d') ∧ w'.cell? ⟨w.heap.size + 1, 1, none⟩ = some (.slice ac C.length cc) ∧ w'.cell? ⟨w.heap.size + 1, 2, none⟩ = some (.slice ad D.length cd) ∧ Kp wb w') (by kernel_rfl) ?_ (fun hHeld0 => ?_)
 ·(try dsimp only); exact KT.out _ (ky kkwc)
 refine tkv 0 qgB0 ?_
 (try simp only [Act.put, qgB0, xA, xB, xC])
 refine tkv 1 qgB1 ?_
 (try simp only [Act.put, qgB1, xA, xB, xC])
 refine tkv 3 qgB3 ?_
 (try simp only [Act.put, qgB3, xA, xB, xC])
 refine tkv 4 qgB4 ?_
 (try simp only [Act.put, qgB4, xA, xB, xC])
 refine tkE 2 qgB2 rfl (by kernel_rfl) (fun K hK => ?_)
 go_simp
 (refine (AP.out _ (KV.out.trans (ky kkwc))).mono ?_; rintro e wd ⟨rfl, kq1⟩; have kkwd : Kp wb wd := Kp.trans (show Kp wb _ from (ky kkwc)) kq1; clear kq1)
 (try go_wp2_with fail)
 refine hK.out _ _ ?_ (fun hHeld1 => ?_)
 ·(try dsimp only); exact KT.out _ (ky kkwd)
 clear hK K hHeld0
 (try simp only [Act.put, qgB2, xA, xB, xC])
 refine tkE 5 qgB5 rfl (by kernel_rfl) (fun K hK => ?_)
 go_simp
 (refine (AQ.out _ (KV.out.trans (ky kkwd))).mono ?_; rintro e we ⟨rfl, kq1⟩; have kkwe : Kp wb we := Kp.trans (show Kp wb _ from (ky kkwd)) kq1; clear kq1)
 (try go_wp2_with fail)
 refine hK.out _ _ ?_ (fun hHeld2 => ?_)
 ·(try dsimp only); exact KT.out _ (ky kkwe)
 clear hK K hHeld1
 (try simp only [Act.put, qgB5, xA, xB, xC])
 refine tkE 6 qgB6 rfl (by kernel_rfl) (fun K hK => ?_)
 go_simp
 (refine (FL.out _).mono ?_; rintro e w' ⟨rfl, rfl⟩)
 (try go_wp2_with fail)
 refine hK.out _ _ ?_ (fun hHeld3 => ?_)
 ·(try dsimp only); exact KT.out _ (ky kkwe)
 clear hK K hHeld2
 (try simp only [Act.put, qgB6, xA, xB, xC])
 refine tkv 7 qgB7 ?_
 (try simp only [Act.put, qgB7, xA, xB, xC])
 refine tkv 8 qgB8 ?_
 (try simp only [Act.put, qgB8, xA, xB, xC])
 refine wpAnyH_done (by kernel_rfl) ?_ _
 by_cases hE : E.length = 0
 ·have e1 : decide ((E.length : Int) > 0) = false := dF
  have e1' : decide ((0 : Int) < (E.length : Int)) = false := dF
  have e2 : decide (0 < E.length) = false := dF
  have r3 : o3 = false := by rw [← G3.out, e2]; rfl
  subst r3
  clear hE
  cases y2 with
  | false =>
   have r4 : o4 = false := by rw [← G4.out]; rfl
   subst r4
   go_upto_region 5 with fail
   refine wp_region_held_drew (S := fun w' => w'.cell? ⟨w.heap.size, 0, none⟩ = some (.bool d) ∧ w'.cell? ⟨w.heap.size, 1, none⟩ = some (.slice aa A.length ca) ∧ w'.cell? ⟨w.heap.size, 2, none⟩ = some (.slice ab B.length cb) ∧ w'.cell? ⟨w.heap.size + 1, 0, none⟩ = some (.bool d') ∧ w'.cell? ⟨w.heap.size + 1, 1, none⟩ = some (.slice ac C.length cc) ∧ w'.cell? ⟨w.heap.size + 1, 2, none⟩ = some (.slice ad D.length cd) ∧ Kp wb w') (by kernel_rfl) ?_ (fun hHeld0 => ?_)
   ·(try dsimp only); exact KT.out _ (ky kkwe)
   refine tkv 0 qgC0 ?_
   (try simp only [Act.put, qgC0, xA, xB, xC])
   refine tkv 1 qgC1 ?_
   (try simp only [Act.put, qgC1, xA, xB, xC])
   refine tkv 2 qgC2 ?_
   (try simp only [Act.put, qgC2, xA, xB, xC])
   refine tkv 3 qgC3 ?_
   (try simp only [Act.put, qgC3, xA, xB, xC])
   refine tkv 4 qgC4 ?_
   (try simp only [Act.put, qgC4, xA, xB, xC])
   refine tkn 5 qgC5 ?_
   (try simp only [Act.put, qgC5, xA, xB, xC])
   refine tkn 6 qgC6 ?_
   (try simp only [Act.put, qgC6, xA, xB, xC])
   refine tkn 7 qgC7 ?_
   (try simp only [Act.put, qgC7, xA, xB, xC])
   refine tkn 8 qgC8 ?_
   (try simp only [Act.put, qgC8, xA, xB, xC])
   refine tkn 9 qgC9 ?_
   (try simp only [Act.put, qgC9, xA, xB, xC])
   refine tkn 10 qgC10 ?_
   (try simp only [Act.put, qgC10, xA, xB, xC])
   refine tkv 11 qgC11 ?_
   (try simp only [Act.put, qgC11, xA, xB, xC])
   refine tkv 14 qgC14 ?_
   (try simp only [Act.put, qgC14, xA, xB, xC])
   refine tkE 12 qgC12 rfl (by kernel_rfl) (fun K hK => ?_)
   go_simp
   (refine (Q3.out _ _).mono ?_; rintro e w' ⟨rfl, rfl⟩)
   (try go_wp2_with fail)
   refine hK.out _ _ ?_ (fun hHeld1 => ?_)
   ·(try dsimp only); exact KT.out _ (ky kkwe)
   clear hK K hHeld0
   (try simp only [Act.put, qgC12, xA, xB, xC])
   refine tkv 13 qgC13 ?_
   (try simp only [Act.put, qgC13, xA, xB, xC])
   refine tkv 15 qgC15 ?_
   (try simp only [Act.put, qgC15, xA, xB, xC])
   refine tkn 16 qgC16 ?_
   (try simp only [Act.put, qgC16, xA, xB, xC])
   refine tkn 17 qgC17 ?_
   (try simp only [Act.put, qgC17, xA, xB, xC])
   refine tkn 18 qgC18 ?_
   (try simp only [Act.put, qgC18, xA, xB, xC])
   refine tkn 19 qgC19 ?_
   (try simp only [Act.put, qgC19, xA, xB, xC])
   refine tkn 20 qgC20 ?_
   (try simp only [Act.put, qgC20, xA, xB, xC])
   refine tkv 21 qgC21 ?_
   (try simp only [Act.put, qgC21, xA, xB, xC])
   refine tkE 22 qgC22 rfl (by kernel_rfl) (fun K hK => ?_)
   go_simp
   (refine (Q4.out _ _).mono ?_; rintro e w' ⟨rfl, rfl⟩)
   (try go_wp2_with fail)
   refine hK.out _ _ ?_ (fun hHeld2 => ?_)
   ·(try dsimp only); exact KT.out _ (ky kkwe)
   clear hK K hHeld1
   (try simp only [Act.put, qgC22, xA, xB, xC])
   refine tkv 23 qgC23 ?_
   (try simp only [Act.put, qgC23, xA, xB, xC])
   refine tkv 24 qgC24 ?_
   (try simp only [Act.put, qgC24, xA, xB, xC])
   refine wpAnyH_done (by kernel_rfl) ?_ _
   by_cases hF : F.length = 0
   ·have f1 : decide ((F.length : Int) > 0) = false := dF
    have f1' : decide ((0 : Int) < (F.length : Int)) = false := dF
    have f2 : decide (0 < F.length) = false := dF
    have r5 : o5 = false := by rw [← G5.out, f2]; rfl
    subst r5
    clear hF
    go_upto_region 6 with fail
    refine wp_region_held_drew (S := fun w' => w'.cell? ⟨w.heap.size, 0, none⟩ = some (.bool d) ∧ w'.cell? ⟨w.heap.size, 1, none⟩ = some (.slice aa A.length ca) ∧ w'.cell? ⟨w.heap.size, 2, none⟩ = some (.slice ab B.length cb) ∧ w'.cell? ⟨w.heap.size + 1, 0, none⟩ = some (.bool d') ∧ w'.cell? ⟨w.heap.size + 1, 1, none⟩ = some (.slice ac C.length cc) ∧ w'.cell? ⟨w.heap.size + 1, 2, none⟩ = some (.slice ad D.length cd) ∧ Kp wb w') (by kernel_rfl) ?_ (fun hHeld0 => ?_)
    ·(try dsimp only); exact KT.out _ (ky kkwe)
    refine tkv 0 qgD0 ?_
    (try simp only [Act.put, qgD0, xA, xB, xC])
    refine tkv 1 qgD1 ?_
    (try simp only [Act.put, qgD1, xA, xB, xC])
    refine tkv 2 qgD2 ?_
    (try simp only [Act.put, qgD2, xA, xB, xC])
    refine tkv 3 qgD3 ?_
    (try simp only [Act.put, qgD3, xA, xB, xC])
    refine tkv 4 qgD4 ?_
    (try simp only [Act.put, qgD4, xA, xB, xC])
    refine tkn 5 qgD5 ?_
    (try simp only [Act.put, qgD5, xA, xB, xC])
    refine tkn 6 qgD6 ?_
    (try simp only [Act.put, qgD6, xA, xB, xC])
    refine tkn 7 qgD7 ?_
    (try simp only [Act.put, qgD7, xA, xB, xC])
    refine tkn 8 qgD8 ?_
    (try simp only [Act.put, qgD8, xA, xB, xC])
    refine tkn 9 qgD9 ?_
    (try simp only [Act.put, qgD9, xA, xB, xC])
    refine tkn 10 qgD10 ?_
    (try simp only [Act.put, qgD10, xA, xB, xC])
    refine tkv 11 qgD11 ?_
    (try simp only [Act.put, qgD11, xA, xB, xC])
    refine tkv 14 qgD14 ?_
    (try simp only [Act.put, qgD14, xA, xB, xC])
    refine tkv 15 qgD15 ?_
    (try simp only [Act.put, qgD15, xA, xB, xC])
    refine tkE 12 qgD12 rfl (by kernel_rfl) (fun K hK => ?_)
    go_simp
    (refine (Q5.out _ _).mono ?_; rintro e w' ⟨rfl, rfl⟩)
    (try go_wp2_with fail)
    refine hK.out _ _ ?_ (fun hHeld1 => ?_)
    ·(try dsimp only); exact KT.out _ (ky kkwe)
    clear hK K hHeld0
    (try simp only [Act.put, qgD12, xA, xB, xC])
    refine tkv 13 qgD13 ?_
    (try simp only [Act.put, qgD13, xA, xB, xC])
    refine tkE 16 qgD16 rfl (by kernel_rfl) (fun K hK => ?_)
    go_simp
    (refine (ME.out _ _ _ (O1.out _ (ky kkwe)) (O2.out _ (ky kkwe))).mono ?_; rintro e wf ⟨v6, rfl, o6x, kq1⟩; have kkwf : Kp wb wf := Kp.trans (show Kp wb _ from (ky kkwe)) kq1; obtain ⟨a6, c6, rfl⟩ := o6x.slice; clear o6x; clear kq1)
    (try go_wp2_with fail)
    refine hK.out _ _ ?_ (fun hHeld2 => ?_)
    ·(try dsimp only); exact KT.out _ (ky kkwf)
    clear hK K hHeld1
    (try simp only [Act.put, qgD16, xA, xB, xC])
    refine tkv 17 qgD17 ?_
    (try simp only [Act.put, qgD17, xA, xB, xC])
    refine tkv 18 qgD18 ?_
    (try simp only [Act.put, qgD18, xA, xB, xC])
    refine tkE 19 qgD19 rfl (by kernel_rfl) (fun K hK => ?_)
    go_simp
    (refine (Q6.out _ _).mono ?_; rintro e w' ⟨rfl, rfl⟩)
    (try go_wp2_with fail)
    refine hK.out _ _ ?_ (fun hHeld3 => ?_)
    ·(try dsimp only); exact KT.out _ (ky kkwf)
    clear hK K hHeld2
    (try simp only [Act.put, qgD19, xA, xB, xC])
    refine tkv 20 qgD20 ?_
    (try simp only [Act.put, qgD20, xA, xB, xC])
    refine tkv 21 qgD21 ?_
    (try simp only [Act.put, qgD21, xA, xB, xC])
    refine wpAnyH_done (by kernel_rfl) ?_ _
    go_wp2
    go_ret
    exact ⟨rfl, KA.out.trans (KV.out.trans (ky kkwf))⟩
   ·have f3 : 0 < F.length := by omega
    have f1 : decide ((F.length : Int) > 0) = true := dT
    have f1' : decide ((0 : Int) < (F.length : Int)) = true := dT
    have f2 : decide (0 < F.length) = true := decide_eq_true f3
    have r5 : o5 = decide (gF > lc) := by rw [← G5.out, f2]; rfl
    subst r5
    clear hF
    go_upto_region 6 with fail
    refine wp_region_held_drew (S := fun w' => w'.cell? ⟨w.heap.size, 0, none⟩ = some (.bool d) ∧ w'.cell? ⟨w.heap.size, 1, none⟩ = some (.slice aa A.length ca) ∧ w'.cell? ⟨w.heap.size, 2, none⟩ = some (.slice ab B.length cb) ∧ w'.cell? ⟨w.heap.size + 1, 0, none⟩ = some (.bool d') ∧ w'.cell? ⟨w.heap.size + 1, 1, none⟩ = some (.slice ac C.length cc) ∧ w'.cell? ⟨w.heap.size + 1, 2, none⟩ = some (.slice ad D.length cd) ∧ Kp wb w') (by kernel_rfl) ?_ (fun hHeld0 => ?_)
    ·(try dsimp only); exact KT.out _ (ky kkwe)
    refine tkv 0 qgD0 ?_
    (try simp only [Act.put, qgD0, xA, xB, xC])
    refine tkv 1 qgD1 ?_
    (try simp only [Act.put, qgD1, xA, xB, xC])
    refine tkv 2 qgD2 ?_
    (try simp only [Act.put, qgD2, xA, xB, xC])
    refine tkv 3 qgD3 ?_
    (try simp only [Act.put, qgD3, xA, xB, xC])
    refine tkv 4 qgD4 ?_
    (try simp only [Act.put, qgD4, xA, xB, xC])
    refine tkv 5 qgD5 ?_
    (try simp only [Act.put, qgD5, xA, xB, xC])
    refine tkv 7 qgD7 ?_
    (try simp only [Act.put, qgD7, xA, xB, xC])
    refine tkv 8 qgD8 ?_
    (try simp only [Act.put, qgD8, xA, xB, xC])
    refine tkv 14 qgD14 ?_
    (try simp only [Act.put, qgD14, xA, xB, xC])
    refine tkv 15 qgD15 ?_
    (try simp only [Act.put, qgD15, xA, xB, xC])
    refine tkE 6 qgD6 rfl (by kernel_rfl) (fun K hK => ?_)
    go_simp
    (refine (GF.out _ _ (O2.out _ (ky kkwe)) f3).mono ?_; rintro e w' ⟨rfl, rfl⟩)
    (try go_wp2_with fail)
    refine hK.out _ _ ?_ (fun hHeld1 => ?_)
    ·(try dsimp only); exact KT.out _ (ky kkwe)
    clear hK K hHeld0
    (try simp only [Act.put, qgD6, xA, xB, xC])
    refine tkE 9 qgD9 rfl (by kernel_rfl) (fun K hK => ?_)
    go_simp
    (refine (LC.out _ (KV.out.trans (ky kkwe))).mono ?_; rintro e w' ⟨rfl, rfl⟩)
    (try go_wp2_with fail)
    refine hK.out _ _ ?_ (fun hHeld2 => ?_)
    ·(try dsimp only); exact KT.out _ (ky kkwe)
    clear hK K hHeld1
    (try simp only [Act.put, qgD9, xA, xB, xC])
    refine tkv 10 qgD10 ?_
    (try simp only [Act.put, qgD10, xA, xB, xC])
    refine tkv 11 qgD11 ?_
    (try simp only [Act.put, qgD11, xA, xB, xC])
    refine tkE 12 qgD12 rfl (by kernel_rfl) (fun K hK => ?_)
    go_simp
    (refine (Q5.out _ _).mono ?_; rintro e w' ⟨rfl, rfl⟩)
    (try go_wp2_with fail)
    refine hK.out _ _ ?_ (fun hHeld3 => ?_)
    ·(try dsimp only); exact KT.out _ (ky kkwe)
    clear hK K hHeld2
    (try simp only [Act.put, qgD12, xA, xB, xC])
    refine tkv 13 qgD13 ?_
    (try simp only [Act.put, qgD13, xA, xB, xC])
    refine tkE 16 qgD16 rfl (by kernel_rfl) (fun K hK => ?_)
    go_simp
    (refine (ME.out _ _ _ (O1.out _ (ky kkwe)) (O2.out _ (ky kkwe))).mono ?_; rintro e wf ⟨v6, rfl, o6x, kq1⟩; have kkwf : Kp wb wf := Kp.trans (show Kp wb _ from (ky kkwe)) kq1; obtain ⟨a6, c6, rfl⟩ := o6x.slice; clear o6x; clear kq1)
    (try go_wp2_with fail)
    refine hK.out _ _ ?_ (fun hHeld4 => ?_)
    ·(try dsimp only); exact KT.out _ (ky kkwf)
    clear hK K hHeld3
    (try simp only [Act.put, qgD16, xA, xB, xC])
    refine tkv 17 qgD17 ?_
    (try simp only [Act.put, qgD17, xA, xB, xC])
    refine tkv 18 qgD18 ?_
    (try simp only [Act.put, qgD18, xA, xB, xC])
    refine tkE 19 qgD19 rfl (by kernel_rfl) (fun K hK => ?_)
    go_simp
    (refine (Q6.out _ _).mono ?_; rintro e w' ⟨rfl, rfl⟩)
    (try go_wp2_with fail)
    refine hK.out _ _ ?_ (fun hHeld5 => ?_)
    ·(try dsimp only); exact KT.out _ (ky kkwf)
    clear hK K hHeld4
    (try simp only [Act.put, qgD19, xA, xB, xC])
    refine tkv 20 qgD20 ?_
    (try simp only [Act.put, qgD20, xA, xB, xC])
    refine tkv 21 qgD21 ?_
    (try simp only [Act.put, qgD21, xA, xB, xC])
    refine wpAnyH_done (by kernel_rfl) ?_ _
    go_wp2
    go_ret
    exact ⟨rfl, KA.out.trans (KV.out.trans (ky kkwf))⟩
  | true =>
   have r4 : o4 = decide (y1 < gd) := by rw [← G4.out]; rfl
   subst r4
   go_upto_region 5 with fail
   refine wp_region_held_drew (S := fun w' => w'.cell? ⟨w.heap.size, 0, none⟩ = some (.bool d) ∧ w'.cell? ⟨w.heap.size, 1, none⟩ = some (.slice aa A.length ca) ∧ w'.cell? ⟨w.heap.size, 2, none⟩ = some (.slice ab B.length cb) ∧ w'.cell? ⟨w.heap.size + 1, 0, none⟩ = some (.bool d') ∧ w'.cell? ⟨w.heap.size + 1, 1, none⟩ = some (.slice ac C.length cc) ∧ w'.cell? ⟨w.heap.size + 1, 2, none⟩ = some (.slice ad D.length cd) ∧ Kp wb w') (by kernel_rfl) ?_ (fun hHeld0 => ?_)
   ·(try dsimp only); exact KT.out _ (ky kkwe)
   refine tkv 0 qgC0 ?_
   (try simp only [Act.put, qgC0, xA, xB, xC])
   refine tkv 1 qgC1 ?_
   (try simp only [Act.put, qgC1, xA, xB, xC])
   refine tkv 2 qgC2 ?_
   (try simp only [Act.put, qgC2, xA, xB, xC])
   refine tkv 3 qgC3 ?_
   (try simp only [Act.put, qgC3, xA, xB, xC])
   refine tkv 4 qgC4 ?_
   (try simp only [Act.put, qgC4, xA, xB, xC])
   refine tkn 5 qgC5 ?_
   (try simp only [Act.put, qgC5, xA, xB, xC])
   refine tkn 6 qgC6 ?_
   (try simp only [Act.put, qgC6, xA, xB, xC])
   refine tkn 7 qgC7 ?_
   (try simp only [Act.put, qgC7, xA, xB, xC])
   refine tkn 8 qgC8 ?_
   (try simp only [Act.put, qgC8, xA, xB, xC])
   refine tkn 9 qgC9 ?_
   (try simp only [Act.put, qgC9, xA, xB, xC])
   refine tkn 10 qgC10 ?_
   (try simp only [Act.put, qgC10, xA, xB, xC])
   refine tkv 11 qgC11 ?_
   (try simp only [Act.put, qgC11, xA, xB, xC])
   refine tkv 14 qgC14 ?_
   (try simp only [Act.put, qgC14, xA, xB, xC])
   refine tkE 12 qgC12 rfl (by kernel_rfl) (fun K hK => ?_)
   go_simp
   (refine (Q3.out _ _).mono ?_; rintro e w' ⟨rfl, rfl⟩)
   (try go_wp2_with fail)
   refine hK.out _ _ ?_ (fun hHeld1 => ?_)
   ·(try dsimp only); exact KT.out _ (ky kkwe)
   clear hK K hHeld0
   (try simp only [Act.put, qgC12, xA, xB, xC])
   refine tkv 13 qgC13 ?_
   (try simp only [Act.put, qgC13, xA, xB, xC])
   refine tkv 15 qgC15 ?_
   (try simp only [Act.put, qgC15, xA, xB, xC])
   refine tkv 16 qgC16 ?_
   (try simp only [Act.put, qgC16, xA, xB, xC])
   refine tkv 17 qgC17 ?_
   (try simp only [Act.put, qgC17, xA, xB, xC])
   refine tkv 18 qgC18 ?_
   (try simp only [Act.put, qgC18, xA, xB, xC])
   refine tkE 19 qgC19 rfl (by kernel_rfl) (fun K hK => ?_)
   go_simp
   (refine (GD.out _ (KV.out.trans (ky kkwe))).mono ?_; rintro e w' ⟨rfl, rfl⟩)
   (try go_wp2_with fail)
   refine hK.out _ _ ?_ (fun hHeld2 => ?_)
   ·(try dsimp only); exact KT.out _ (ky kkwe)
   clear hK K hHeld1
   (try simp only [Act.put, qgC19, xA, xB, xC])
   refine tkv 20 qgC20 ?_
   (try simp only [Act.put, qgC20, xA, xB, xC])
   refine tkv 21 qgC21 ?_
   (try simp only [Act.put, qgC21, xA, xB, xC])
   refine tkE 22 qgC22 rfl (by kernel_rfl) (fun K hK => ?_)
   go_simp
   (refine (Q4.out _ _).mono ?_; rintro e w' ⟨rfl, rfl⟩)
   (try go_wp2_with fail)
   refine hK.out _ _ ?_ (fun hHeld3 => ?_)
   ·(try dsimp only); exact KT.out _ (ky kkwe)
   clear hK K hHeld2
   (try simp only [Act.put, qgC22, xA, xB, xC])
   refine tkv 23 qgC23 ?_
   (try simp only [Act.put, qgC23, xA, xB, xC])
   refine tkv 24 qgC24 ?_
   (try simp only [Act.put, qgC24, xA, xB, xC])
   refine wpAnyH_done (by kernel_rfl) ?_ _
   by_cases hF : F.length = 0
   ·have f1 : decide ((F.length : Int) > 0) = false := dF
    have f1' : decide ((0 : Int) < (F.length : Int)) = false := dF
    have f2 : decide (0 < F.length) = false := dF
    have r5 : o5 = false := by rw [← G5.out, f2]; rfl
    subst r5
    clear hF
    go_upto_region 6 with fail
    refine wp_region_held_drew (S := fun w' => w'.cell? ⟨w.heap.size, 0, none⟩ = some (.bool d) ∧ w'.cell? ⟨w.heap.size, 1, none⟩ = some (.slice aa A.length ca) ∧ w'.cell? ⟨w.heap.size, 2, none⟩ = some (.slice ab B.length cb) ∧ w'.cell? ⟨w.heap.size + 1, 0, none⟩ = some (.bool d') ∧ w'.cell? ⟨w.heap.size + 1, 1, none⟩ = some (.slice ac C.length cc) ∧ w'.cell? ⟨w.heap.size + 1, 2, none⟩ = some (.slice ad D.length cd) ∧ Kp wb w') (by kernel_rfl) ?_ (fun hHeld0 => ?_)
    ·(try dsimp only); exact KT.out _ (ky kkwe)
    refine tkv 0 qgD0 ?_
    (try simp only [Act.put, qgD0, xA, xB, xC])
    refine tkv 1 qgD1 ?_
    (try simp only [Act.put, qgD1, xA, xB, xC])
    refine tkv 2 qgD2 ?_
    (try simp only [Act.put, qgD2, xA, xB, xC])
    refine tkv 3 qgD3 ?_
    (try simp only [Act.put, qgD3, xA, xB, xC])
    refine tkv 4 qgD4 ?_
    (try simp only [Act.put, qgD4, xA, xB, xC])
    refine tkn 5 qgD5 ?_
    (try simp only [Act.put, qgD5, xA, xB, xC])
    refine tkn 6 qgD6 ?_
    (try simp only [Act.put, qgD6, xA, xB, xC])
    refine tkn 7 qgD7 ?_
    (try simp only [Act.put, qgD7, xA, xB, xC])
    refine tkn 8 qgD8 ?_
    (try simp only [Act.put, qgD8, xA, xB, xC])
    refine tkn 9 qgD9 ?_
    (try simp only [Act.put, qgD9, xA, xB, xC])
    refine tkn 10 qgD10 ?_
    (try simp only [Act.put, qgD10, xA, xB, xC])
    refine tkv 11 qgD11 ?_
    (try simp only [Act.put, qgD11, xA, xB, xC])
    refine tkv 14 qgD14 ?_
    (try simp only [Act.put, qgD14, xA, xB, xC])
    refine tkv 15 qgD15 ?_
    (try simp only [Act.put, qgD15, xA, xB, xC])
    refine tkE 12 qgD12 rfl (by kernel_rfl) (fun K hK => ?_)
    go_simp
    (refine (Q5.out _ _).mono ?_; rintro e w' ⟨rfl, rfl⟩)
    (try go_wp2_with fail)
    refine hK.out _ _ ?_ (fun hHeld1 => ?_)
    ·(try dsimp only); exact KT.out _ (ky kkwe)
    clear hK K hHeld0
    (try simp only [Act.put, qgD12, xA, xB, xC])
    refine tkv 13 qgD13 ?_
    (try simp only [Act.put, qgD13, xA, xB, xC])
    refine tkE 16 qgD16 rfl (by kernel_rfl) (fun K hK => ?_)
    go_simp
    (refine (ME.out _ _ _ (O1.out _ (ky kkwe)) (O2.out _ (ky kkwe))).mono ?_; rintro e wf ⟨v6, rfl, o6x, kq1⟩; have kkwf : Kp wb wf := Kp.trans (show Kp wb _ from (ky kkwe)) kq1; obtain ⟨a6, c6, rfl⟩ := o6x.slice; clear o6x; clear kq1)
    (try go_wp2_with fail)
    refine hK.out _ _ ?_ (fun hHeld2 => ?_)
    ·(try dsimp only); exact KT.out _ (ky kkwf)
    clear hK K hHeld1
    (try simp only [Act.put, qgD16, xA, xB, xC])
    refine tkv 17 qgD17 ?_
    (try simp only [Act.put, qgD17, xA, xB, xC])
    refine tkv 18 qgD18 ?_
    (try simp only [Act.put, qgD18, xA, xB, xC])
    refine tkE 19 qgD19 rfl (by kernel_rfl) (fun K hK => ?_)
    go_simp
    (refine (Q6.out _ _).mono ?_; rintro e w' ⟨rfl, rfl⟩)
    (try go_wp2_with fail)
    refine hK.out _ _ ?_ (fun hHeld3 => ?_)
    ·(try dsimp only); exact KT.out _ (ky kkwf)
    clear hK K hHeld2
    (try simp only [Act.put, qgD19, xA, xB, xC])
    refine tkv 20 qgD20 ?_
    (try simp only [Act.put, qgD20, xA, xB, xC])
    refine tkv 21 qgD21 ?_
    (try simp only [Act.put, qgD21, xA, xB, xC])
    refine wpAnyH_done (by kernel_rfl) ?_ _
    go_wp2
    go_ret
    exact ⟨rfl, KA.out.trans (KV.out.trans (ky kkwf))⟩
   ·have f3 : 0 < F.length := by omega
    have f1 : decide ((F.length : Int) > 0) = true := dT
    have f1' : decide ((0 : Int) < (F.length : Int)) = true := dT
    have f2 : decide (0 < F.length) = true := decide_eq_true f3
    have r5 : o5 = decide (gF > lc) := by rw [← G5.out, f2]; rfl
    subst r5
    clear hF
    go_upto_region 6 with fail
    refine wp_region_held_drew (S := fun w' => w'.cell? ⟨w.heap.size, 0, none⟩ = some (.bool d) ∧ w'.cell? ⟨w.heap.size, 1, none⟩ = some (.slice aa A.length ca) ∧ w'.cell? ⟨w.heap.size, 2, none⟩ = some (.slice ab B.length cb) ∧ w'.cell? ⟨w.heap.size + 1, 0, none⟩ = some (.bool d') ∧ w'.cell? ⟨w.heap.size + 1, 1, none⟩ = some (.slice ac C.length cc) ∧ w'.cell? ⟨w.heap.size + 1, 2, none⟩ = some (.slice ad D.length cd) ∧ Kp wb w') (by kernel_rfl) ?_ (fun hHeld0 => ?_)
    ·(try dsimp only); exact KT.out _ (ky kkwe)
    refine tkv 0 qgD0 ?_
    (try simp only [Act.put, qgD0, xA, xB, xC])
    refine tkv 1 qgD1 ?_
    (try simp only [Act.put, qgD1, xA, xB, xC])
    refine tkv 2 qgD2 ?_
    (try simp only [Act.put, qgD2, xA, xB, xC])
    refine tkv 3 qgD3 ?_
    (try simp only [Act.put, qgD3, xA, xB, xC])
    refine tkv 4 qgD4 ?_
    (try simp only [Act.put, qgD4, xA, xB, xC])
    refine tkv 5 qgD5 ?_
    (try simp only [Act.put, qgD5, xA, xB, xC])
    refine tkv 7 qgD7 ?_
    (try simp only [Act.put, qgD7, xA, xB, xC])
    refine tkv 8 qgD8 ?_
    (try simp only [Act.put, qgD8, xA, xB, xC])
    refine tkv 14 qgD14 ?_
    (try simp only [Act.put, qgD14, xA, xB, xC])
    refine tkv 15 qgD15 ?_
    (try simp only [Act.put, qgD15, xA, xB, xC])
    refine tkE 6 qgD6 rfl (by kernel_rfl) (fun K hK => ?_)
    go_simp
    (refine (GF.out _ _ (O2.out _ (ky kkwe)) f3).mono ?_; rintro e w' ⟨rfl, rfl⟩)
    (try go_wp2_with fail)
    refine hK.out _ _ ?_ (fun hHeld1 => ?_)
    ·(try dsimp only); exact KT.out _ (ky kkwe)
    clear hK K hHeld0
    (try simp only [Act.put, qgD6, xA, xB, xC])
    refine tkE 9 qgD9 rfl (by kernel_rfl) (fun K hK => ?_)
    go_simp
    (refine (LC.out _ (KV.out.trans (ky kkwe))).mono ?_; rintro e w' ⟨rfl, rfl⟩)
    (try go_wp2_with fail)
    refine hK.out _ _ ?_ (fun hHeld2 => ?_)
    ·(try dsimp only); exact KT.out _ (ky kkwe)
    clear hK K hHeld1
    (try simp only [Act.put, qgD9, xA, xB, xC])
    refine tkv 10 qgD10 ?_
    (try simp only [Act.put, qgD10, xA, xB, xC])
    refine tkv 11 qgD11 ?_
    (try simp only [Act.put, qgD11, xA, xB, xC])
    refine tkE 12 qgD12 rfl (by kernel_rfl) (fun K hK => ?_)
    go_simp
    (refine (Q5.out _ _).mono ?_; rintro e w' ⟨rfl, rfl⟩)
    (try go_wp2_with fail)
    refine hK.out _ _ ?_ (fun hHeld3 => ?_)
    ·(try dsimp only); exact KT.out _ (ky kkwe)
    clear hK K hHeld2
    (try simp only [Act.put, qgD12, xA, xB, xC])
    refine tkv 13 qgD13 ?_
    (try simp only [Act.put, qgD13, xA, xB, xC])
    refine tkE 16 qgD16 rfl (by kernel_rfl) (fun K hK => ?_)
    go_simp
    (refine (ME.out _ _ _ (O1.out _ (ky kkwe)) (O2.out _ (ky kkwe))).mono ?_; rintro e wf ⟨v6, rfl, o6x, kq1⟩; have kkwf : Kp wb wf := Kp.trans (show Kp wb _ from (ky kkwe)) kq1; obtain ⟨a6, c6, rfl⟩ := o6x.slice; clear o6x; clear kq1)
    (try go_wp2_with fail)
    refine hK.out _ _ ?_ (fun hHeld4 => ?_)
    ·(try dsimp only); exact KT.out _ (ky kkwf)
    clear hK K hHeld3
    (try simp only [Act.put, qgD16, xA, xB, xC])
    refine tkv 17 qgD17 ?_
    (try simp only [Act.put, qgD17, xA, xB, xC])
    refine tkv 18 qgD18 ?_
    (try simp only [Act.put, qgD18, xA, xB, xC])
    refine tkE 19 qgD19 rfl (by kernel_rfl) (fun K hK => ?_)
    go_simp
    (refine (Q6.out _ _).mono ?_; rintro e w' ⟨rfl, rfl⟩)
    (try go_wp2_with fail)
    refine hK.out _ _ ?_ (fun hHeld5 => ?_)
    ·(try dsimp only); exact KT.out _ (ky kkwf)
    clear hK K hHeld4
    (try simp only [Act.put, qgD19, xA, xB, xC])
    refine tkv 20 qgD20 ?_
    (try simp only [Act.put, qgD20, xA, xB, xC])
    refine tkv 21 qgD21 ?_
    (try simp only [Act.put, qgD21, xA, xB, xC])
    refine wpAnyH_done (by kernel_rfl) ?_ _
    go_wp2
    go_ret
    exact ⟨rfl, KA.out.trans (KV.out.trans (ky kkwf))⟩
 ·have e3 : 0 < E.length := by omega
  have e1 : decide ((E.length : Int) > 0) = true := dT
  have e1' : decide ((0 : Int) < (E.length : Int)) = true := dT
  have e2 : decide (0 < E.length) = true := decide_eq_true e3
  have r3 : o3 = decide (le < gd) := by rw [← G3.out, e2]; rfl
  subst r3
  clear hE
  cases y2 with
  | false =>
   have r4 : o4 = false := by rw [← G4.out]; rfl
   subst r4
   go_upto_region 5 with fail
   refine wp_region_held_drew (S := fun w' => w'.cell? ⟨w.heap.size, 0, none⟩ = some (.bool d) ∧ w'.cell? ⟨w.heap.size, 1, none⟩ = some (.slice aa A.length ca) ∧ w'.cell? ⟨w.heap.size, 2, none⟩ = some (.slice ab B.length cb) ∧ w'.cell? ⟨w.heap.size + 1, 0, none⟩ = some (.bool d') ∧ w'.cell? ⟨w.heap.size + 1, 1, none⟩ = some (.slice ac C.length cc) ∧ w'.cell? ⟨w.heap.size + 1, 2, none⟩ = some (.slice ad D.length cd) ∧ Kp wb w') (by kernel_rfl) ?_ (fun hHeld0 => ?_)
   ·(try dsimp only); exact KT.out _ (ky kkwe)
   refine tkv 0 qgC0 ?_
   (try simp only [Act.put, qgC0, xA, xB, xC])
   refine tkv 1 qgC1 ?_
   (try simp only [Act.put, qgC1, xA, xB, xC])
   refine tkv 2 qgC2 ?_
   (try simp only [Act.put, qgC2, xA, xB, xC])
   refine tkv 3 qgC3 ?_
   (try simp only [Act.put, qgC3, xA, xB, xC])
   refine tkv 4 qgC4 ?_
   (try simp only [Act.put, qgC4, xA, xB, xC])
   refine tkv 5 qgC5 ?_
   (try simp only [Act.put, qgC5, xA, xB, xC])
   refine tkv 7 qgC7 ?_
   (try simp only [Act.put, qgC7, xA, xB, xC])
   refine tkv 8 qgC8 ?_
   (try simp only [Act.put, qgC8, xA, xB, xC])
   refine tkv 14 qgC14 ?_
   (try simp only [Act.put, qgC14, xA, xB, xC])
   refine tkE 6 qgC6 rfl (by kernel_rfl) (fun K hK => ?_)
   go_simp
   (refine (LE.out _ _ (O1.out _ (ky kkwe)) e3).mono ?_; rintro e w' ⟨rfl, rfl⟩)
   (try go_wp2_with fail)
   refine hK.out _ _ ?_ (fun hHeld1 => ?_)
   ·(try dsimp only); exact KT.out _ (ky kkwe)
   clear hK K hHeld0
   (try simp only [Act.put, qgC6, xA, xB, xC])
   refine tkE 9 qgC9 rfl (by kernel_rfl) (fun K hK => ?_)
   go_simp
   (refine (GD.out _ (KV.out.trans (ky kkwe))).mono ?_; rintro e w' ⟨rfl, rfl⟩)
   (try go_wp2_with fail)
   refine hK.out _ _ ?_ (fun hHeld2 => ?_)
   ·(try dsimp only); exact KT.out _ (ky kkwe)
   clear hK K hHeld1
   (try simp only [Act.put, qgC9, xA, xB, xC])
   refine tkv 10 qgC10 ?_
   (try simp only [Act.put, qgC10, xA, xB, xC])
   refine tkv 11 qgC11 ?_
   (try simp only [Act.put, qgC11, xA, xB, xC])
   refine tkE 12 qgC12 rfl (by kernel_rfl) (fun K hK => ?_)
   go_simp
   (refine (Q3.out _ _).mono ?_; rintro e w' ⟨rfl, rfl⟩)
   (try go_wp2_with fail)
   refine hK.out _ _ ?_ (fun hHeld3 => ?_)
   ·(try dsimp only); exact KT.out _ (ky kkwe)
   clear hK K hHeld2
   (try simp only [Act.put, qgC12, xA, xB, xC])
   refine tkv 13 qgC13 ?_
   (try simp only [Act.put, qgC13, xA, xB, xC])
   refine tkv 15 qgC15 ?_
   (try simp only [Act.put, qgC15, xA, xB, xC])
   refine tkn 16 qgC16 ?_
   (try simp only [Act.put, qgC16, xA, xB, xC])
   refine tkn 17 qgC17 ?_
   (try simp only [Act.put, qgC17, xA, xB, xC])
   refine tkn 18 qgC18 ?_
   (try simp only [Act.put, qgC18, xA, xB, xC])
   refine tkn 19 qgC19 ?_
   (try simp only [Act.put, qgC19, xA, xB, xC])
   refine tkn 20 qgC20 ?_
   (try simp only [Act.put, qgC20, xA, xB, xC])
   refine tkv 21 qgC21 ?_
   (try simp only [Act.put, qgC21, xA, xB, xC])
   refine tkE 22 qgC22 rfl (by kernel_rfl) (fun K hK => ?_)
   go_simp
   (refine (Q4.out _ _).mono ?_; rintro e w' ⟨rfl, rfl⟩)
   (try go_wp2_with fail)
   refine hK.out _ _ ?_ (fun hHeld4 => ?_)
   ·(try dsimp only); exact KT.out _ (ky kkwe)
   clear hK K hHeld3
   (try simp only [Act.put, qgC22, xA, xB, xC])
   refine tkv 23 qgC23 ?_
   (try simp only [Act.put, qgC23, xA, xB, xC])
   refine tkv 24 qgC24 ?_
   (try simp only [Act.put, qgC24, xA, xB, xC])
   refine wpAnyH_done (by kernel_rfl) ?_ _
   by_cases hF : F.length = 0
   ·have f1 : decide ((F.length : Int) > 0) = false := dF
    have f1' : decide ((0 : Int) < (F.length : Int)) = false := dF
    have f2 : decide (0 < F.length) = false := dF
    have r5 : o5 = false := by rw [← G5.out, f2]; rfl
    subst r5
    clear hF
    go_upto_region 6 with fail
    refine wp_region_held_drew (S := fun w' => w'.cell? ⟨w.heap.size, 0, none⟩ = some (.bool d) ∧ w'.cell? ⟨w.heap.size, 1, none⟩ = some (.slice aa A.length ca) ∧ w'.cell? ⟨w.heap.size, 2, none⟩ = some (.slice ab B.length cb) ∧ w'.cell? ⟨w.heap.size + 1, 0, none⟩ = some (.bool d') ∧ w'.cell? ⟨w.heap.size + 1, 1, none⟩ = some (.slice ac C.length cc) ∧ w'.cell? ⟨w.heap.size + 1, 2, none⟩ = some (.slice ad D.length cd) ∧ Kp wb w') (by kernel_rfl) ?_ (fun hHeld0 => ?_)
    ·(try dsimp only); exact KT.out _ (ky kkwe)
    refine tkv 0 qgD0 ?_
    (try simp only [Act.put, qgD0, xA, xB, xC])
    refine tkv 1 qgD1 ?_
    (try simp only [Act.put, qgD1, xA, xB, xC])
    refine tkv 2 qgD2 ?_
    (try simp only [Act.put, qgD2, xA, xB, xC])
    refine tkv 3 qgD3 ?_
    (try simp only [Act.put, qgD3, xA, xB, xC])
    refine tkv 4 qgD4 ?_
    (try simp only [Act.put, qgD4, xA, xB, xC])
    refine tkn 5 qgD5 ?_
    (try simp only [Act.put, qgD5, xA, xB, xC])
    refine tkn 6 qgD6 ?_
    (try simp only [Act.put, qgD6, xA, xB, xC])
    refine tkn 7 qgD7 ?_
    (try simp only [Act.put, qgD7, xA, xB, xC])
    refine tkn 8 qgD8 ?_
    (try simp only [Act.put, qgD8, xA, xB, xC])
    refine tkn 9 qgD9 ?_
    (try simp only [Act.put, qgD9, xA, xB, xC])
    refine tkn 10 qgD10 ?_
    (try simp only [Act.put, qgD10, xA, xB, xC])
    refine tkv 11 qgD11 ?_
    (try simp only [Act.put, qgD11, xA, xB, xC])
    refine tkv 14 qgD14 ?_
    (try simp only [Act.put, qgD14, xA, xB, xC])
    refine tkv 15 qgD15 ?_
    (try simp only [Act.put, qgD15, xA, xB, xC])
    refine tkE 12 qgD12 rfl (by kernel_rfl) (fun K hK => ?_)
    go_simp
    (refine (Q5.out _ _).mono ?_; rintro e w' ⟨rfl, rfl⟩)
    (try go_wp2_with fail)
    refine hK.out _ _ ?_ (fun hHeld1 => ?_)
    ·(try dsimp only); exact KT.out _ (ky kkwe)
    clear hK K hHeld0
    (try simp only [Act.put, qgD12, xA, xB, xC])
    refine tkv 13 qgD13 ?_
    (try simp only [Act.put, qgD13, xA, xB, xC])
    refine tkE 16 qgD16 rfl (by kernel_rfl) (fun K hK => ?_)
    go_simp
    (refine (ME.out _ _ _ (O1.out _ (ky kkwe)) (O2.out _ (ky kkwe))).mono ?_; rintro e wf ⟨v6, rfl, o6x, kq1⟩; have kkwf : Kp wb wf := Kp.trans (show Kp wb _ from (ky kkwe)) kq1; obtain ⟨a6, c6, rfl⟩ := o6x.slice; clear o6x; clear kq1)
    (try go_wp2_with fail)
    refine hK.out _ _ ?_ (fun hHeld2 => ?_)
    ·(try dsimp only); exact KT.out _ (ky kkwf)
    clear hK K hHeld1
    (try simp only [Act.put, qgD16, xA, xB, xC])
    refine tkv 17 qgD17 ?_
    (try simp only [Act.put, qgD17, xA, xB, xC])
    refine tkv 18 qgD18 ?_
    (try simp only [Act.put, qgD18, xA, xB, xC])
    refine tkE 19 qgD19 rfl (by kernel_rfl) (fun K hK => ?_)
    go_simp
    (refine (Q6.out _ _).mono ?_; rintro e w' ⟨rfl, rfl⟩)
    (try go_wp2_with fail)
    refine hK.out _ _ ?_ (fun hHeld3 => ?_)
    ·(try dsimp only); exact KT.out _ (ky kkwf)
    clear hK K hHeld2
    (try simp only [Act.put, qgD19, xA, xB, xC])
    refine tkv 20 qgD20 ?_
    (try simp only [Act.put, qgD20, xA, xB, xC])
    refine tkv 21 qgD21 ?_
    (try simp only [Act.put, qgD21, xA, xB, xC])
    refine wpAnyH_done (by kernel_rfl) ?_ _
    go_wp2
    go_ret
    exact ⟨rfl, KA.out.trans (KV.out.trans (ky kkwf))⟩
   ·have f3 : 0 < F.length := by omega
    have f1 : decide ((F.length : Int) > 0) = true := dT
    have f1' : decide ((0 : Int) < (F.length : Int)) = true := dT
    have f2 : decide (0 < F.length) = true := decide_eq_true f3
    have r5 : o5 = decide (gF > lc) := by rw [← G5.out, f2]; rfl
    subst r5
    clear hF
    go_upto_region 6 with fail
    refine wp_region_held_drew (S := fun w' => w'.cell? ⟨w.heap.size, 0, none⟩ = some (.bool d) ∧ w'.cell? ⟨w.heap.size, 1, none⟩ = some (.slice aa A.length ca) ∧ w'.cell? ⟨w.heap.size, 2, none⟩ = some (.slice ab B.length cb) ∧ w'.cell? ⟨w.heap.size + 1, 0, none⟩ = some (.bool d') ∧ w'.cell? ⟨w.heap.size + 1, 1, none⟩ = some (.slice ac C.length cc) ∧ w'.cell? ⟨w.heap.size + 1, 2, none⟩ = some (.slice ad D.length cd) ∧ Kp wb w') (by kernel_rfl) ?_ (fun hHeld0 => ?_)
    ·(try dsimp only); exact KT.out _ (ky kkwe)
    refine tkv 0 qgD0 ?_
    (try simp only [Act.put, qgD0, xA, xB, xC])
    refine tkv 1 qgD1 ?_
    (try simp only [Act.put, qgD1, xA, xB, xC])
    refine tkv 2 qgD2 ?_
    (try simp only [Act.put, qgD2, xA, xB, xC])
    refine tkv 3 qgD3 ?_
    (try simp only [Act.put, qgD3, xA, xB, xC])
    refine tkv 4 qgD4 ?_
    (try simp only [Act.put, qgD4, xA, xB, xC])
    refine tkv 5 qgD5 ?_
    (try simp only [Act.put, qgD5, xA, xB, xC])
    refine tkv 7 qgD7 ?_
    (try simp only [Act.put, qgD7, xA, xB, xC])
    refine tkv 8 qgD8 ?_
    (try simp only [Act.put, qgD8, xA, xB, xC])
    refine tkv 14 qgD14 ?_
    (try simp only [Act.put, qgD14, xA, xB, xC])
    refine tkv 15 qgD15 ?_
    (try simp only [Act.put, qgD15, xA, xB, xC])
    refine tkE 6 qgD6 rfl (by kernel_rfl) (fun K hK => ?_)
    go_simp
    (refine (GF.out _ _ (O2.out _ (ky kkwe)) f3).mono ?_; rintro e w' ⟨rfl, rfl⟩)
    (try go_wp2_with fail)
    refine hK.out _ _ ?_ (fun hHeld1 => ?_)
    ·(try dsimp only); exact KT.out _ (ky kkwe)
    clear hK K hHeld0
    (try simp only [Act.put, qgD6, xA, xB, xC])
    refine tkE 9 qgD9 rfl (by kernel_rfl) (fun K hK => ?_)
    go_simp
    (refine (LC.out _ (KV.out.trans (ky kkwe))).mono ?_; rintro e w' ⟨rfl, rfl⟩)
    (try go_wp2_with fail)
    refine hK.out _ _ ?_ (fun hHeld2 => ?_)
    ·(try dsimp only); exact KT.out _ (ky kkwe)
    clear hK K hHeld1
    (try simp only [Act.put, qgD9, xA, xB, xC])
    refine tkv 10 qgD10 ?_
    (try simp only [Act.put, qgD10, xA, xB, xC])
    refine tkv 11 qgD11 ?_
    (try simp only [Act.put, qgD11, xA, xB, xC])
    refine tkE 12 qgD12 rfl (by kernel_rfl) (fun K hK => ?_)
    go_simp
    (refine (Q5.out _ _).mono ?_; rintro e w' ⟨rfl, rfl⟩)
    (try go_wp2_with fail)
    refine hK.out _ _ ?_ (fun hHeld3 => ?_)
    ·(try dsimp only); exact KT.out _ (ky kkwe)
    clear hK K hHeld2
    (try simp only [Act.put, qgD12, xA, xB, xC])
    refine tkv 13 qgD13 ?_
    (try simp only [Act.put, qgD13, xA, xB, xC])
    refine tkE 16 qgD16 rfl (by kernel_rfl) (fun K hK => ?_)
    go_simp
    (refine (ME.out _ _ _ (O1.out _ (ky kkwe)) (O2.out _ (ky kkwe))).mono ?_; rintro e wf ⟨v6, rfl, o6x, kq1⟩; have kkwf : Kp wb wf := Kp.trans (show Kp wb _ from (ky kkwe)) kq1; obtain ⟨a6, c6, rfl⟩ := o6x.slice; clear o6x; clear kq1)
    (try go_wp2_with fail)
    refine hK.out _ _ ?_ (fun hHeld4 => ?_)
    ·(try dsimp only); exact KT.out _ (ky kkwf)
    clear hK K hHeld3
    (try simp only [Act.put, qgD16, xA, xB, xC])
    refine tkv 17 qgD17 ?_
    (try simp only [Act.put, qgD17, xA, xB, xC])
    refine tkv 18 qgD18 ?_
    (try simp only [Act.put, qgD18, xA, xB, xC])
    refine tkE 19 qgD19 rfl (by kernel_rfl) (fun K hK => ?_)
    go_simp
    (refine (Q6.out _ _).mono ?_; rintro e w' ⟨rfl, rfl⟩)
    (try go_wp2_with fail)
    refine hK.out _ _ ?_ (fun hHeld5 => ?_)
    ·(try dsimp only); exact KT.out _ (ky kkwf)
    clear hK K hHeld4
    (try simp only [Act.put, qgD19, xA, xB, xC])
    refine tkv 20 qgD20 ?_
    (try simp only [Act.put, qgD20, xA, xB, xC])
    refine tkv 21 qgD21 ?_
    (try simp only [Act.put, qgD21, xA, xB, xC])
    refine wpAnyH_done (by kernel_rfl) ?_ _
    go_wp2
    go_ret
    exact ⟨rfl, KA.out.trans (KV.out.trans (ky kkwf))⟩
  | true =>
   have r4 : o4 = decide (y1 < gd) := by rw [← G4.out]; rfl
   subst r4
   go_upto_region 5 with fail
   refine wp_region_held_drew (S := fun w' => w'.cell? ⟨w.heap.size, 0, none⟩ = some (.bool d) ∧ w'.cell? ⟨w.heap.size, 1, none⟩ = some (.slice aa A.length ca) ∧ w'.cell? ⟨w.heap.size, 2, none⟩ = some (.slice ab B.length cb) ∧ w'.cell? ⟨w.heap.size + 1, 0, none⟩ = some (.bool d') ∧ w'.cell? ⟨w.heap.size + 1, 1, none⟩ = some (.slice ac C.length cc) ∧ w'.cell? ⟨w.heap.size + 1, 2, none⟩ = some (.slice ad D.length cd) ∧ Kp wb w') (by kernel_rfl) ?_ (fun hHeld0 => ?_)
   ·(try dsimp only); exact KT.out _ (ky kkwe)
   refine tkv 0 qgC0 ?_
   (try simp only [Act.put, qgC0, xA, xB, xC])
   refine tkv 1 qgC1 ?_
   (try simp only [Act.put, qgC1, xA, xB, xC])
   refine tkv 2 qgC2 ?_
   (try simp only [Act.put, qgC2, xA, xB, xC])
   refine tkv 3 qgC3 ?_
   (try simp only [Act.put, qgC3, xA, xB, xC])
   refine tkv 4 qgC4 ?_
   (try simp only [Act.put, qgC4, xA, xB, xC])
   refine tkv 5 qgC5 ?_
   (try simp only [Act.put, qgC5, xA, xB, xC])
   refine tkv 7 qgC7 ?_
   (try simp only [Act.put, qgC7, xA, xB, xC])
   refine tkv 8 qgC8 ?_
   (try simp only [Act.put, qgC8, xA, xB, xC])
   refine tkv 14 qgC14 ?_
   (try simp only [Act.put, qgC14, xA, xB, xC])
   refine tkE 6 qgC6 rfl (by kernel_rfl) (fun K hK => ?_)
   go_simp
   (refine (LE.out _ _ (O1.out _ (ky kkwe)) e3).mono ?_; rintro e w' ⟨rfl, rfl⟩)
   (try go_wp2_with fail)
   refine hK.out _ _ ?_ (fun hHeld1 => ?_)
   ·(try dsimp only); exact KT.out _ (ky kkwe)
   clear hK K hHeld0
   (try simp only [Act.put, qgC6, xA, xB, xC])
   refine tkE 9 qgC9 rfl (by kernel_rfl) (fun K hK => ?_)
   go_simp
   (refine (GD.out _ (KV.out.trans (ky kkwe))).mono ?_; rintro e w' ⟨rfl, rfl⟩)
   (try go_wp2_with fail)
   refine hK.out _ _ ?_ (fun hHeld2 => ?_)
   ·(try dsimp only); exact KT.out _ (ky kkwe)
   clear hK K hHeld1
   (try simp only [Act.put, qgC9, xA, xB, xC])
   refine tkv 10 qgC10 ?_
   (try simp only [Act.put, qgC10, xA, xB, xC])
   refine tkv 11 qgC11 ?_
   (try simp only [Act.put, qgC11, xA, xB, xC])
   refine tkE 12 qgC12 rfl (by kernel_rfl) (fun K hK => ?_)
   go_simp
   (refine (Q3.out _ _).mono ?_; rintro e w' ⟨rfl, rfl⟩)
   (try go_wp2_with fail)
   refine hK.out _ _ ?_ (fun hHeld3 => ?_)
   ·(try dsimp only); exact KT.out _ (ky kkwe)
   clear hK K hHeld2
   (try simp only [Act.put, qgC12, xA, xB, xC])
   refine tkv 13 qgC13 ?_
   (try simp only [Act.put, qgC13, xA, xB, xC])
   refine tkv 15 qgC15 ?_
   (try simp only [Act.put, qgC15, xA, xB, xC])
   refine tkv 16 qgC16 ?_
   (try simp only [Act.put, qgC16, xA, xB, xC])
   refine tkv 17 qgC17 ?_
   (try simp only [Act.put, qgC17, xA, xB, xC])
   refine tkv 18 qgC18 ?_
   (try simp only [Act.put, qgC18, xA, xB, xC])
   refine tkE 19 qgC19 rfl (by kernel_rfl) (fun K hK => ?_)
   go_simp
   (refine (GD.out _ (KV.out.trans (ky kkwe))).mono ?_; rintro e w' ⟨rfl, rfl⟩)
   (try go_wp2_with fail)
   refine hK.out _ _ ?_ (fun hHeld4 => ?_)
   ·(try dsimp only); exact KT.out _ (ky kkwe)
   clear hK K hHeld3
   (try simp only [Act.put, qgC19, xA, xB, xC])
   refine tkv 20 qgC20 ?_
   (try simp only [Act.put, qgC20, xA, xB, xC])
   refine tkv 21 qgC21 ?_
   (try simp only [Act.put, qgC21, xA, xB, xC])
   refine tkE 22 qgC22 rfl (by kernel_rfl) (fun K hK => ?_)
   go_simp
   (refine (Q4.out _ _).mono ?_; rintro e w' ⟨rfl, rfl⟩)
   (try go_wp2_with fail)
   refine hK.out _ _ ?_ (fun hHeld5 => ?_)
   ·(try dsimp only); exact KT.out _ (ky kkwe)
   clear hK K hHeld4
   (try simp only [Act.put, qgC22, xA, xB, xC])
   refine tkv 23 qgC23 ?_
   (try simp only [Act.put, qgC23, xA, xB, xC])
   refine tkv 24 qgC24 ?_
   (try simp only [Act.put, qgC24, xA, xB, xC])
   refine wpAnyH_done (by kernel_rfl) ?_ _
   by_cases hF : F.length = 0
   ·have f1 : decide ((F.length : Int) > 0) = false := dF
    have f1' : decide ((0 : Int) < (F.length : Int)) = false := dF
    have f2 : decide (0 < F.length) = false := dF
    have r5 : o5 = false := by rw [← G5.out, f2]; rfl
    subst r5
    clear hF
    go_upto_region 6 with fail
    refine wp_region_held_drew (S := fun w' => w'.cell? ⟨w.heap.size, 0, none⟩ = some (.bool d) ∧ w'.cell? ⟨w.heap.size, 1, none⟩ = some (.slice aa A.length ca) ∧ w'.cell? ⟨w.heap.size, 2, none⟩ = some (.slice ab B.length cb) ∧ w'.cell? ⟨w.heap.size + 1, 0, none⟩ = some (.bool d') ∧ w'.cell? ⟨w.heap.size + 1, 1, none⟩ = some (.slice ac C.length cc) ∧ w'.cell? ⟨w.heap.size + 1, 2, none⟩ = some (.slice ad D.length cd) ∧ Kp wb w') (by kernel_rfl) ?_ (fun hHeld0 => ?_)
    ·(try dsimp only); exact KT.out _ (ky kkwe)
    refine tkv 0 qgD0 ?_
    (try simp only [Act.put, qgD0, xA, xB, xC])
    refine tkv 1 qgD1 ?_
    (try simp only [Act.put, qgD1, xA, xB, xC])
    refine tkv 2 qgD2 ?_
    (try simp only [Act.put, qgD2, xA, xB, xC])
    refine tkv 3 qgD3 ?_
    (try simp only [Act.put, qgD3, xA, xB, xC])
    refine tkv 4 qgD4 ?_
    (try simp only [Act.put, qgD4, xA, xB, xC])
    refine tkn 5 qgD5 ?_
    (try simp only [Act.put, qgD5, xA, xB, xC])
    refine tkn 6 qgD6 ?_
    (try simp only [Act.put, qgD6, xA, xB, xC])
    refine tkn 7 qgD7 ?_
    (try simp only [Act.put, qgD7, xA, xB, xC])
    refine tkn 8 qgD8 ?_
    (try simp only [Act.put, qgD8, xA, xB, xC])
    refine tkn 9 qgD9 ?_
    (try simp only [Act.put, qgD9, xA, xB, xC])
    refine tkn 10 qgD10 ?_
    (try simp only [Act.put, qgD10, xA, xB, xC])
    refine tkv 11 qgD11 ?_
    (try simp only [Act.put, qgD11, xA, xB, xC])
    refine tkv 14 qgD14 ?_
    (try simp only [Act.put, qgD14, xA, xB, xC])
    refine tkv 15 qgD15 ?_
    (try simp only [Act.put, qgD15, xA, xB, xC])
    refine tkE 12 qgD12 rfl (by kernel_rfl) (fun K hK => ?_)
    go_simp
    (refine (Q5.out _ _).mono ?_; rintro e w' ⟨rfl, rfl⟩)
    (try go_wp2_with fail)
    refine hK.out _ _ ?_ (fun hHeld1 => ?_)
    ·(try dsimp only); exact KT.out _ (ky kkwe)
    clear hK K hHeld0
    (try simp only [Act.put, qgD12, xA, xB, xC])
    refine tkv 13 qgD13 ?_
    (try simp only [Act.put, qgD13, xA, xB, xC])
    refine tkE 16 qgD16 rfl (by kernel_rfl) (fun K hK => ?_)
    go_simp
    (refine (ME.out _ _ _ (O1.out _ (ky kkwe)) (O2.out _ (ky kkwe))).mono ?_; rintro e wf ⟨v6, rfl, o6x, kq1⟩; have kkwf : Kp wb wf := Kp.trans (show Kp wb _ from (ky kkwe)) kq1; obtain ⟨a6, c6, rfl⟩ := o6x.slice; clear o6x; clear kq1)
    (try go_wp2_with fail)
    refine hK.out _ _ ?_ (fun hHeld2 => ?_)
    ·(try dsimp only); exact KT.out _ (ky kkwf)
    clear hK K hHeld1
    (try simp only [Act.put, qgD16, xA, xB, xC])
    refine tkv 17 qgD17 ?_
    (try simp only [Act.put, qgD17, xA, xB, xC])
    refine tkv 18 qgD18 ?_
    (try simp only [Act.put, qgD18, xA, xB, xC])
    refine tkE 19 qgD19 rfl (by kernel_rfl) (fun K hK => ?_)
    go_simp
    (refine (Q6.out _ _).mono ?_; rintro e w' ⟨rfl, rfl⟩)
    (try go_wp2_with fail)
    refine hK.out _ _ ?_ (fun hHeld3 => ?_)
    ·(try dsimp only); exact KT.out _ (ky kkwf)
    clear hK K hHeld2
    (try simp only [Act.put, qgD19, xA, xB, xC])
    refine tkv 20 qgD20 ?_
    (try simp only [Act.put, qgD20, xA, xB, xC])
    refine tkv 21 qgD21 ?_
    (try simp only [Act.put, qgD21, xA, xB, xC])
    refine wpAnyH_done (by kernel_rfl) ?_ _
    go_wp2
    go_ret
    exact ⟨rfl, KA.out.trans (KV.out.trans (ky kkwf))⟩
   ·have f3 : 0 < F.length := by omega
    have f1 : decide ((F.length : Int) > 0) = true := dT
    have f1' : decide ((0 : Int) < (F.length : Int)) = true := dT
    have f2 : decide (0 < F.length) = true := decide_eq_true f3
    have r5 : o5 = decide (gF > lc) := by rw [← G5.out, f2]; rfl
    subst r5
    clear hF
    go_upto_region 6 with fail
    refine wp_region_held_drew (S := fun w' => w'.cell? ⟨w.heap.size, 0, none⟩ = some (.bool d) ∧ w'.cell? ⟨w.heap.size, 1, none⟩ = some (.slice aa A.length ca) ∧ w'.cell? ⟨w.heap.size, 2, none⟩ = some (.slice ab B.length cb) ∧ w'.cell? ⟨w.heap.size + 1, 0, none⟩ = some (.bool d') ∧ w'.cell? ⟨w.heap.size + 1, 1, none⟩ = some (.slice ac C.length cc) ∧ w'.cell? ⟨w.heap.size + 1, 2, none⟩ = some (.slice ad D.length cd) ∧ Kp wb w') (by kernel_rfl) ?_ (fun hHeld0 => ?_)
    ·(try dsimp only); exact KT.out _ (ky kkwe)
    refine tkv 0 qgD0 ?_
    (try simp only [Act.put, qgD0, xA, xB, xC])
    refine tkv 1 qgD1 ?_
    (try simp only [Act.put, qgD1, xA, xB, xC])
    refine tkv 2 qgD2 ?_
    (try simp only [Act.put, qgD2, xA, xB, xC])
    refine tkv 3 qgD3 ?_
    (try simp only [Act.put, qgD3, xA, xB, xC])
    refine tkv 4 qgD4 ?_
    (try simp only [Act.put, qgD4, xA, xB, xC])
    refine tkv 5 qgD5 ?_
    (try simp only [Act.put, qgD5, xA, xB, xC])
    refine tkv 7 qgD7 ?_
    (try simp only [Act.put, qgD7, xA, xB, xC])
    refine tkv 8 qgD8 ?_
    (try simp only [Act.put, qgD8, xA, xB, xC])
    refine tkv 14 qgD14 ?_
    (try simp only [Act.put, qgD14, xA, xB, xC])
    refine tkv 15 qgD15 ?_
    (try simp only [Act.put, qgD15, xA, xB, xC])
    refine tkE 6 qgD6 rfl (by kernel_rfl) (fun K hK => ?_)
    go_simp
    (refine (GF.out _ _ (O2.out _ (ky kkwe)) f3).mono ?_; rintro e w' ⟨rfl, rfl⟩)
    (try go_wp2_with fail)
    refine hK.out _ _ ?_ (fun hHeld1 => ?_)
    ·(try dsimp only); exact KT.out _ (ky kkwe)
    clear hK K hHeld0
    (try simp only [Act.put, qgD6, xA, xB, xC])
    refine tkE 9 qgD9 rfl (by kernel_rfl) (fun K hK => ?_)
    go_simp
    (refine (LC.out _ (KV.out.trans (ky kkwe))).mono ?_; rintro e w' ⟨rfl, rfl⟩)
    (try go_wp2_with fail)
    refine hK.out _ _ ?_ (fun hHeld2 => ?_)
    ·(try dsimp only); exact KT.out _ (ky kkwe)
    clear hK K hHeld1
    (try simp only [Act.put, qgD9, xA, xB, xC])
    refine tkv 10 qgD10 ?_
    (try simp only [Act.put, qgD10, xA, xB, xC])
    refine tkv 11 qgD11 ?_
    (try simp only [Act.put, qgD11, xA, xB, xC])
    refine tkE 12 qgD12 rfl (by kernel_rfl) (fun K hK => ?_)
    go_simp
    (refine (Q5.out _ _).mono ?_; rintro e w' ⟨rfl, rfl⟩)
    (try go_wp2_with fail)
    refine hK.out _ _ ?_ (fun hHeld3 => ?_)
    ·(try dsimp only); exact KT.out _ (ky kkwe)
    clear hK K hHeld2
    (try simp only [Act.put, qgD12, xA, xB, xC])
    refine tkv 13 qgD13 ?_
    (try simp only [Act.put, qgD13, xA, xB, xC])
    refine tkE 16 qgD16 rfl (by kernel_rfl) (fun K hK => ?_)
    go_simp
    (refine (ME.out _ _ _ (O1.out _ (ky kkwe)) (O2.out _ (ky kkwe))).mono ?_; rintro e wf ⟨v6, rfl, o6x, kq1⟩; have kkwf : Kp wb wf := Kp.trans (show Kp wb _ from (ky kkwe)) kq1; obtain ⟨a6, c6, rfl⟩ := o6x.slice; clear o6x; clear kq1)
    (try go_wp2_with fail)
    refine hK.out _ _ ?_ (fun hHeld4 => ?_)
    ·(try dsimp only); exact KT.out _ (ky kkwf)
    clear hK K hHeld3
    (try simp only [Act.put, qgD16, xA, xB, xC])
    refine tkv 17 qgD17 ?_
    (try simp only [Act.put, qgD17, xA, xB, xC])
    refine tkv 18 qgD18 ?_
    (try simp only [Act.put, qgD18, xA, xB, xC])
    refine tkE 19 qgD19 rfl (by kernel_rfl) (fun K hK => ?_)
    go_simp
    (refine (Q6.out _ _).mono ?_; rintro e w' ⟨rfl, rfl⟩)
    (try go_wp2_with fail)
    refine hK.out _ _ ?_ (fun hHeld5 => ?_)
    ·(try dsimp only); exact KT.out _ (ky kkwf)
    clear hK K hHeld4
    (try simp only [Act.put, qgD19, xA, xB, xC])
    refine tkv 20 qgD20 ?_
    (try simp only [Act.put, qgD20, xA, xB, xC])
    refine tkv 21 qgD21 ?_
    (try simp only [Act.put, qgD21, xA, xB, xC])
    refine wpAnyH_done (by kernel_rfl) ?_ _
    go_wp2
    go_ret
    exact ⟨rfl, KA.out.trans (KV.out.trans (ky kkwf))⟩
end Go.Proofs.YtcooaoponkkpeaaGreatDoor
