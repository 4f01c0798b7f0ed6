import Derived.Test.YtcooaoponkkpeaaGreatDoorJR
import Derived.Test.YtcooaoponkkpeaaGreatDoorJL
import Derived.LoopTactic
import Derived.Test.YtcooaoponkkpeaaGreatDoorGImgC
set_option maxHeartbeats 16000000
set_option maxRecDepth 100000
namespace Go.Proofs.YtcooaoponkkpeaaGreatDoor
open Go.RowKit
set_option linter.unusedVariables false
set_option linter.unusedSimpArgs false
theorem in_of {k : Int} {s : List R} (h : setB k s = true) {S T : Int} (hST : S ≤ T) : inF (.units k s) S T ↔ okO k S = true ∧ okO k T = true ∧ ofV k S = ofV k T ∧ memR s (ofV k S) := by
 constructor
 ·rintro ⟨x, y, hh, h1, h2⟩
  obtain ⟨i, hi, rfl, rfl⟩ := (hasF_units h _ _).1 hh
  have bd := setB_mem h hi
  have e1 := (range_day (k := k) (day := S) bd.1 (Int.le_refl i) bd.2).1 ⟨h1, by omega⟩
  have e2 := (range_day (k := k) (day := T) bd.1 (Int.le_refl i) bd.2).1 ⟨by omega, h2⟩
  have u1 : unum k S = i := by omega
  have u2 : unum k T = i := by omega
  exact ⟨e1.1, e2.1, by rw [ofV_yes e1.1, ofV_yes e2.1, u1, u2], by rw [ofV_yes e1.1, u1]; exact hi⟩
 ·rintro ⟨o1, o2, e, m⟩
  rw [ofV_yes o1] at e m
  rw [ofV_yes o2] at e
  have bd := setB_mem h m
  have e1 := (range_day (k := k) (day := S) bd.1 (Int.le_refl _) bd.2).2 ⟨o1, Int.le_refl _, Int.le_refl _⟩
  have e2 := (range_day (k := k) (day := T) bd.1 (Int.le_refl _) bd.2).2 ⟨o2, by omega, by omega⟩
  exact ⟨_, _, (hasF_units h _ _).2 ⟨_, m, rfl, rfl⟩, e1.1, e2.2⟩
noncomputable def rinB (f : LF) (S T : Int) : Bool := decide (S ≤ T) && insB f S T
theorem rin_u {f : LF} {k : Int} {s : List R} (hg : lfOf (famR f) = ⟨false, k, s, []⟩) (hs : setB k s = true) (S T : Int) : rinB f S T = ((!(decide (s.length = 0) || decide (T < S))) && (okO k S && (okO k T && ((ofV k S == ofV k T) && hasB s (ofV k S))))) := by
 have e : ∀ (hST : S ≤ T), insB f S T = true ↔ inF (.units k s) S T := fun hST => by
  unfold insB
  rw [hg]
  have := arU_iff hs hST
  rw [← this]
  unfold arR
  rw [if_neg (by simp)]
  simp [List.any_eq_true]
 unfold rinB
 by_cases hST : S ≤ T
 ·have hd : decide (T < S) = false := dF
  rw [decide_eq_true hST, Bool.true_and, hd, Bool.or_false]
  refine boolN_iff (e hST) ?_
  rw [in_of hs hST, Bool.and_eq_true, Bool.and_eq_true, Bool.and_eq_true, Bool.and_eq_true, has_mem (setB_sane hs), beq_iff_eq]
  constructor
  ·rintro ⟨_, a, b, c, d⟩; exact ⟨a, b, c, d⟩
  ·rintro ⟨a, b, c, d⟩
   have := mem_pos d
   exact ⟨by rw [dF]; rfl, a, b, c, d⟩
 ·have hd : decide (T < S) = true := dT
  rw [decide_eq_false hST, hd]
  simp
theorem rin_s {f : LF} {s e : List R} (hg : lfOf (famR f) = ⟨true, 0, s, e⟩) (S T : Int) : rinB f S T = (!decide (T < S) && (decide (leastR s ≤ S) && decide (T ≤ greatR e))) := by
 unfold rinB insB
 rw [hg]
 unfold arR
 rw [if_pos rfl]
 by_cases hST : S ≤ T
 ·have hd : decide (T < S) = false := dF
  rw [decide_eq_true hST, hd]
  simp
 ·have hd : decide (T < S) = true := dT
  rw [decide_eq_false hST, hd]
  simp
theorem rins_u (k : Int) (s : List R) (f : LF) (va vb : Value) (S T : Int) (w : World) (h : LeafOk w f va vb) (hg : lfOf (famR f) = ⟨false, k, s, []⟩) (ss : setB k s = true) (b1 : -9223372036854775808 ≤ S) (b2 : S ≤ 9223372036854775807) (b3 : -9223372036854775808 ≤ T) (b4 : T ≤ 9223372036854775807) :
  Calls Tryz.prog 46 #[leafV f va vb, .agg #[.int .i64 S, .int .i64 T]] w fun e w' => e = .returned (.bool (rinB f S T)) ∧ Kp w w' := by
 rw [rin_u hg ss]
 have C := Hd (fun w1 (kk : Kp w w1) => refTidy_any f va vb w1 (h.kp kk))
 rw [hg] at C
 clear hg
 have sn := setB_sane ss
 have CO := Hd (fun w1 => rof_any k S w1 b1 b2)
 have CT := Hd (fun w1 => rof_any k T w1 b3 b4)
 have CH := Hd (fun ad c w1 (r : RunsAt w1 (.slice ad s.length c) s) (ii : I64R s) (hn : s.length ≤ 1000) => rhas_of (.slice ad s.length c) s (ofV k S) w1 (by have := asR_any _ s w1 r ii (by omega); rwa [nf_of_sane sn] at this) sn (by omega))
 generalize okO k S = q at *
 generalize okO k T = p at *
 generalize ofV k S = i at *
 generalize ofV k T = j at *
 generalize hasB s i = z at *
 obtain ⟨t1, ht1⟩ : ∃ q, (i == j) = q := ⟨_, rfl⟩
 rw [ht1]
 obtain ⟨z0, hz0⟩ : ∃ q, decide (s.length = 0) = q := ⟨_, rfl⟩
 obtain ⟨z1, hz1⟩ : ∃ q, decide (T < S) = q := ⟨_, rfl⟩
 rw [hz0, hz1]
 have q0 : ((s.length : Int) == 0) = z0 := by
  by_cases h : s.length = 0
  ·rw [← hz0, decide_eq_true h, h]; rfl
  ·rw [← hz0, decide_eq_false h]; exact beq_eq_false_iff_ne.2 (by omega)
 have q2 : decide (S > T) = z1 := hz1
 clear ss sn hz0
 obtain ⟨sp, u, a, b⟩ := f
 obtain ⟨ad, ca, rfl⟩ := h.a.slice
 obtain ⟨bd, cb, rfl⟩ := h.b.slice
 simp only [leafV] at C ⊢
 obtain ⟨W0, hW⟩ : ∃ x, x = (w.alloc (.cells #[.bool sp, .int .i64 u, .slice ad a.length ca, .slice bd b.length cb] 44)).alloc (.cells #[.int .i64 S, .int .i64 T] 31) := ⟨_, rfl⟩
 have k0 : Kp w W0 := by rw [hW]; exact (Kp.alloc _ _).trans (Kp.alloc _ _)
 have p0 : W0.cell? ⟨w.heap.size + 1, 0, none⟩ = some (.int .i64 S) := by rw [hW]; simp
 have p1 : W0.cell? ⟨w.heap.size + 1, 1, none⟩ = some (.int .i64 T) := by rw [hW]; simp
 have K0 := Hd k0
 have HW := Hd hW
 have P0 := Hd p0
 have P1 := Hd p1
 clear h hW k0 p0 p1
 go_enter Tryz.func46, Tryz.ntmps46
 go_wp2_with fail
 rw [← HW.out]
 refine (C.out _ K0.out).mono ?_
 rintro e w1 ⟨ga, gb, rfl, okg, kk⟩
 clear C
 obtain ⟨aa, c1', e1⟩ := okg.a.slice
 obtain ⟨ab, c2', e2⟩ := okg.b.slice
 simp only [List.length_nil] at e1 e2
 subst e1 e2
 have na := okg.na
 simp only at na
 obtain ⟨V, hV⟩ : ∃ x, x = w1.alloc (.cells #[.bool false, .int .i64 k, .slice aa s.length c1', .slice ab 0 c2'] 44) := ⟨_, rfl⟩
 have ka : Kp w1 V := by rw [hV]; exact Kp.alloc _ _
 have hgq : V.heap[w1.heap.size]? = some (.cells #[.bool false, .int .i64 k, .slice aa s.length c1', .slice ab 0 c2'] 44 (0, 0)) := by rw [hV]; exact heap_at _ _ _ rfl
 have g0 : V.cell? ⟨w1.heap.size, 0, none⟩ = some (.bool false) := by simp [World.cell?, hgq]
 have g1 : V.cell? ⟨w1.heap.size, 1, none⟩ = some (.int .i64 k) := by simp [World.cell?, hgq]
 have g2 : V.cell? ⟨w1.heap.size, 2, none⟩ = some (.slice aa s.length c1') := by simp [World.cell?, hgq]
 have g3 : V.cell? ⟨w1.heap.size, 3, none⟩ = some (.slice ab 0 c2') := by simp [World.cell?, hgq]
 have g4 := cell_up (kk.trans ka) P0.out
 have g5 := cell_up (kk.trans ka) P1.out
 have HB := Hd (fun w' (kq : Kp V w') => show w'.cell? ⟨w1.heap.size, 0, none⟩ = some (.bool false) ∧ w'.cell? ⟨w1.heap.size, 1, none⟩ = some (.int .i64 k) ∧ w'.cell? ⟨w1.heap.size, 2, none⟩ = some (.slice aa s.length c1') ∧ w'.cell? ⟨w1.heap.size, 3, none⟩ = some (.slice ab 0 c2') ∧ w'.cell? ⟨w.heap.size + 1, 0, none⟩ = some (.int .i64 S) ∧ w'.cell? ⟨w.heap.size + 1, 1, none⟩ = some (.int .i64 T) from ⟨cell_up kq g0, cell_up kq g1, cell_up kq g2, cell_up kq g3, cell_up kq g4, cell_up kq g5⟩)
 have KV := Hd (K0.out.trans (kk.trans ka))
 have HV := Hd hV
 have OKV := Hd (okg.kp ka)
 have ZV := Hd (Kp.refl V)
 have f4 := cell_up kk P0.out
 have f5 := cell_up kk P1.out
 have zp := World.block_lt_of_cell? w1 _ f4
 have zp' : ¬ w.heap.size + 1 = w1.heap.size := by simp at zp; omega
 have KW := Hd kk
 clear hV ka hgq kk okg g0 g1 g2 g3 g4 g5
 cases z0 with
 | true =>
  go_wp2
  go_ret
  exact ⟨rfl, K0.out.trans (KW.out.trans (Kp.alloc _ _))⟩
 | false =>
 cases z1 with
 | true =>
  go_wp2
  go_ret
  exact ⟨rfl, K0.out.trans (KW.out.trans (Kp.alloc _ _))⟩
 | false =>
 go_wp2_with fail
 rw [← HV.out]
 clear f4 f5 zp
 obtain ⟨e0, e1, e2, e3, e4, e5⟩ := HB.out V (Kp.refl _)
 refine (CO.out _).mono ?_
 rintro e w' ⟨rfl, rfl⟩
 go_wp2_with fail
 refine (CT.out _).mono ?_
 rintro e w' ⟨rfl, rfl⟩
 cases q with
 | false =>
  go_wp2
  go_ret
  exact ⟨rfl, KV.out⟩
 | true =>
  cases p with
  | false =>
   go_wp2
   go_ret
   exact ⟨rfl, KV.out⟩
  | true =>
   cases t1 with
   | false =>
    go_wp2
    go_ret
    exact ⟨rfl, KV.out⟩
   | true =>
    go_wp2_with fail
    refine (CH.out _ _ _ (OKV.out.a.kp (ky ZV.out)) OKV.out.ia na).mono ?_
    rintro e w2 ⟨rfl, kk⟩
    have K2 := Hd (KV.out.trans ((show Kp V _ from (ky ZV.out)).trans kk))
    clear kk
    go_wp2
    go_ret
    exact ⟨rfl, K2.out⟩
abbrev niA0 : Oper := ⟨some 25, .fieldAddr 31 (.tmp 3) 0, 0, "ref.go:21", #[], none⟩
abbrev niA1 : Oper := ⟨some 26, .load 3 (.tmp 25), 3, "ref.go:21", #[⟨0, .data⟩], none⟩
abbrev niA2 : Oper := ⟨some 27, .fieldAddr 44 (.tmp 5) 2, 0, "ref.go:21", #[], none⟩
abbrev niA3 : Oper := ⟨some 28, .load 34 (.tmp 27), 34, "ref.go:21", #[⟨2, .data⟩], none⟩
abbrev niA4 : Oper := ⟨some 29, .indexAddr 34 (.tmp 28) (.const (.int .i64 0)), 0, "ref.go:21", #[⟨3, .data⟩], none⟩
abbrev niA5 : Oper := ⟨some 30, .fieldAddr 42 (.tmp 29) 0, 0, "ref.go:21", #[⟨4, .data⟩], none⟩
abbrev niA6 : Oper := ⟨some 31, .load 3 (.tmp 30), 3, "ref.go:21", #[⟨5, .data⟩], none⟩
abbrev niA7 : Oper := ⟨some 32, .binOp .geq 3 (.tmp 26) (.tmp 31) 3, 4, "ref.go:21", #[⟨1, .data⟩, ⟨6, .data⟩], none⟩
abbrev niA8 : Oper := ⟨some 33, .move (.tmp 32), 4, "ref.go:21", #[⟨7, .data⟩], none⟩
abbrev niA9 : Oper := ⟨some 34, .fieldAddr 31 (.tmp 3) 1, 0, "ref.go:21", #[⟨8, .guard⟩], some (8, true)⟩
abbrev niA10 : Oper := ⟨some 35, .load 3 (.tmp 34), 3, "ref.go:21", #[⟨9, .data⟩, ⟨8, .guard⟩], some (8, true)⟩
abbrev niA11 : Oper := ⟨some 36, .fieldAddr 44 (.tmp 5) 3, 0, "ref.go:21", #[⟨8, .guard⟩], some (8, true)⟩
abbrev niA12 : Oper := ⟨some 37, .load 34 (.tmp 36), 34, "ref.go:21", #[⟨11, .data⟩, ⟨8, .guard⟩], some (8, true)⟩
abbrev niA13 : Oper := ⟨some 38, .fieldAddr 44 (.tmp 5) 3, 0, "ref.go:21", #[⟨8, .guard⟩], some (8, true)⟩
abbrev niA14 : Oper := ⟨some 39, .load 34 (.tmp 38), 34, "ref.go:21", #[⟨13, .data⟩, ⟨8, .guard⟩], some (8, true)⟩
abbrev niA15 : Oper := ⟨some 40, .call ⟨.builtin .len, #[.tmp 39], #[34]⟩, 3, "ref.go:21", #[⟨14, .data⟩, ⟨8, .guard⟩], some (8, true)⟩
abbrev niA16 : Oper := ⟨some 41, .binOp .sub 3 (.tmp 40) (.const (.int .i64 1)) 3, 3, "ref.go:21", #[⟨15, .data⟩, ⟨8, .guard⟩], some (8, true)⟩
abbrev niA17 : Oper := ⟨some 42, .indexAddr 34 (.tmp 37) (.tmp 41), 0, "ref.go:21", #[⟨12, .data⟩, ⟨16, .data⟩, ⟨8, .guard⟩], some (8, true)⟩
abbrev niA18 : Oper := ⟨some 43, .fieldAddr 42 (.tmp 42) 1, 0, "ref.go:21", #[⟨17, .data⟩, ⟨8, .guard⟩], some (8, true)⟩
abbrev niA19 : Oper := ⟨some 44, .load 3 (.tmp 43), 3, "ref.go:21", #[⟨18, .data⟩, ⟨8, .guard⟩], some (8, true)⟩
abbrev niA20 : Oper := ⟨some 45, .binOp .leq 3 (.tmp 35) (.tmp 44) 3, 4, "ref.go:21", #[⟨10, .data⟩, ⟨19, .data⟩, ⟨8, .guard⟩], some (8, true)⟩
abbrev niA21 : Oper := ⟨some 46, .pick (.tmp 33) (.tmp 45) (.const (.bool false)), 4, "ref.go:21", #[⟨8, .data⟩, ⟨20, .data⟩], none⟩
abbrev niA22 : Oper := ⟨some 4, .assign (.tmp 46), 4, "ref.go:21", #[⟨21, .data⟩, ⟨8, .chain⟩, ⟨0, .phase⟩, ⟨1, .phase⟩, ⟨2, .phase⟩, ⟨3, .phase⟩, ⟨4, .phase⟩, ⟨5, .phase⟩, ⟨6, .phase⟩, ⟨7, .phase⟩, ⟨8, .phase⟩, ⟨9, .phase⟩, ⟨10, .phase⟩, ⟨11, .phase⟩, ⟨12, .phase⟩, ⟨13, .phase⟩, ⟨14, .phase⟩, ⟨15, .phase⟩, ⟨16, .phase⟩, ⟨17, .phase⟩, ⟨18, .phase⟩, ⟨19, .phase⟩, ⟨20, .phase⟩, ⟨21, .phase⟩], none⟩
theorem rins_s (s t : List R) (f : LF) (va vb : Value) (S T : Int) (w : World) (h : LeafOk w f va vb) (hg : lfOf (famR f) = ⟨true, 0, s, t⟩) (n1 : 0 < s.length) (n2 : 0 < t.length) :
  Calls Tryz.prog 46 #[leafV f va vb, .agg #[.int .i64 S, .int .i64 T]] w fun e w' => e = .returned (.bool (rinB f S T)) ∧ Kp w w' := by
 rw [rin_s hg]
 have C := Hd (fun w1 (kk : Kp w w1) => refTidy_any f va vb w1 (h.kp kk))
 rw [hg] at C
 clear hg
 obtain ⟨x, hx⟩ : ∃ q, leastR s = q := ⟨_, rfl⟩
 obtain ⟨y, hy⟩ : ∃ q, greatR t = q := ⟨_, rfl⟩
 obtain ⟨t1, ht1⟩ : ∃ q, decide (x ≤ S) = q := ⟨_, rfl⟩
 have ht2 : decide (S ≥ x) = t1 := ht1
 obtain ⟨z1, hz1⟩ : ∃ q, decide (T < S) = q := ⟨_, rfl⟩
 rw [hx, hy, ht1, hz1]
 have q2 : decide (S > T) = z1 := hz1
 obtain ⟨sp, u, a, b⟩ := f
 obtain ⟨ad, ca, rfl⟩ := h.a.slice
 obtain ⟨bd, cb, rfl⟩ := h.b.slice
 simp only [leafV] at C ⊢
 obtain ⟨W0, hW⟩ : ∃ x, x = (w.alloc (.cells #[.bool sp, .int .i64 u, .slice ad a.length ca, .slice bd b.length cb] 44)).alloc (.cells #[.int .i64 S, .int .i64 T] 31) := ⟨_, rfl⟩
 have k0 : Kp w W0 := by rw [hW]; exact (Kp.alloc _ _).trans (Kp.alloc _ _)
 have p0 : W0.cell? ⟨w.heap.size + 1, 0, none⟩ = some (.int .i64 S) := by rw [hW]; simp
 have p1 : W0.cell? ⟨w.heap.size + 1, 1, none⟩ = some (.int .i64 T) := by rw [hW]; simp
 have K0 := Hd k0
 have HW := Hd hW
 have P0 := Hd p0
 have P1 := Hd p1
 clear h hW k0 p0 p1
 go_enter Tryz.func46, Tryz.ntmps46
 go_wp2_with fail
 rw [← HW.out]
 refine (C.out _ K0.out).mono ?_
 rintro e w1 ⟨ga, gb, rfl, okg, kk⟩
 clear C
 obtain ⟨ba, oa, c1', ev, x0, x1⟩ := ends_at okg.a (by simp only; omega)
 simp only at ev x0 x1
 rw [hx] at x0
 subst ev
 obtain ⟨bb, ob, c2', ev, y0, y1⟩ := ends_at okg.b (by simp only; omega)
 simp only at ev y0 y1
 rw [hy] at y1
 subst ev
 have na := okg.na
 have nb := okg.nb
 simp only at na nb
 have q0 : ((s.length : Int) == 0) = false := beq_eq_false_iff_ne.2 (by omega)
 have wz : 0 < s.length := by omega
 have wt : (t.length : Int) - 1 = ((t.length - 1 : Nat) : Int) := by omega
 have wu : IntKind.i64.wrap ((t.length - 1 : Nat) : Int) = ((t.length - 1 : Nat) : Int) := IntWalk.i64_in _ (by omega)
 have wx : t.length - 1 < t.length := by omega
 have wy : ((t.length - 1 : Nat) : Int) < (t.length : Int) := by omega
 have wv : (0 : Int) ≤ ((t.length - 1 : Nat) : Int) := by omega
 clear x1 y0
 obtain ⟨V, hV⟩ : ∃ x, x = w1.alloc (.cells #[.bool true, .int .i64 0, .slice (some ⟨ba, oa, none⟩) s.length c1', .slice (some ⟨bb, ob, none⟩) t.length c2'] 44) := ⟨_, rfl⟩
 have ka : Kp w1 V := by rw [hV]; exact Kp.alloc _ _
 have hgq : V.heap[w1.heap.size]? = some (.cells #[.bool true, .int .i64 0, .slice (some ⟨ba, oa, none⟩) s.length c1', .slice (some ⟨bb, ob, none⟩) t.length c2'] 44 (0, 0)) := by rw [hV]; exact heap_at _ _ _ rfl
 have g0 : V.cell? ⟨w1.heap.size, 0, none⟩ = some (.bool true) := by simp [World.cell?, hgq]
 have g1 : V.cell? ⟨w1.heap.size, 1, none⟩ = some (.int .i64 0) := by simp [World.cell?, hgq]
 have g2 : V.cell? ⟨w1.heap.size, 2, none⟩ = some (.slice (some ⟨ba, oa, none⟩) s.length c1') := by simp [World.cell?, hgq]
 have g3 : V.cell? ⟨w1.heap.size, 3, none⟩ = some (.slice (some ⟨bb, ob, none⟩) t.length c2') := by simp [World.cell?, hgq]
 have g4 := cell_up (kk.trans ka) P0.out
 have g5 := cell_up (kk.trans ka) P1.out
 have HB := Hd (fun w' (kq : Kp V w') => show w'.cell? ⟨w1.heap.size, 0, none⟩ = some (.bool true) ∧ w'.cell? ⟨w1.heap.size, 1, none⟩ = some (.int .i64 0) ∧ w'.cell? ⟨w1.heap.size, 2, none⟩ = some (.slice (some ⟨ba, oa, none⟩) s.length c1') ∧ w'.cell? ⟨w1.heap.size, 3, none⟩ = some (.slice (some ⟨bb, ob, none⟩) t.length c2') ∧ w'.cell? ⟨w.heap.size + 1, 0, none⟩ = some (.int .i64 S) ∧ w'.cell? ⟨w.heap.size + 1, 1, none⟩ = some (.int .i64 T) from ⟨cell_up kq g0, cell_up kq g1, cell_up kq g2, cell_up kq g3, cell_up kq g4, cell_up kq g5⟩)
 have KV := Hd (K0.out.trans (kk.trans ka))
 have HV := Hd hV
 have OKV := Hd (okg.kp ka)
 have ZV := Hd (Kp.refl V)
 have f4 := cell_up kk P0.out
 have f5 := cell_up kk P1.out
 have zp := World.block_lt_of_cell? w1 _ f4
 have zp' : ¬ w.heap.size + 1 = w1.heap.size := by simp at zp; omega
 have KS := Hd (fun w' (kq : Kp V w') => show w'.cell? ⟨w1.heap.size, 0, none⟩ = some (.bool true) ∧ w'.cell? ⟨w1.heap.size, 1, none⟩ = some (.int .i64 0) ∧ w'.cell? ⟨w1.heap.size, 2, none⟩ = some (.slice (some ⟨ba, oa, none⟩) s.length c1') ∧ w'.cell? ⟨w1.heap.size, 3, none⟩ = some (.slice (some ⟨bb, ob, none⟩) t.length c2') ∧ w'.cell? ⟨w.heap.size + 1, 0, none⟩ = some (.int .i64 S) ∧ w'.cell? ⟨w.heap.size + 1, 1, none⟩ = some (.int .i64 T) ∧ w'.cell? ⟨ba, oa, none⟩ = some (.int .i64 x) ∧ w'.cell? ⟨bb, ob + (t.length - 1) * 2 + 1, none⟩ = some (.int .i64 y) ∧ Kp V w' from ⟨cell_up kq g0, cell_up kq g1, cell_up kq g2, cell_up kq g3, cell_up kq g4, cell_up kq g5, cell_up (ka.trans kq) x0, cell_up (ka.trans kq) y1, kq⟩)
 have KW := Hd kk
 clear x0 y1 hV ka hgq kk okg g0 g1 g2 g3 g4 g5
 cases z1 with
 | true =>
  go_wp2
  go_ret
  exact ⟨rfl, K0.out.trans (KW.out.trans (Kp.alloc _ _))⟩
 | false =>
 cases t1 with
 | false =>
  go_upto_region 5 with fail
  rw [← HV.out]
  clear f4 f5 zp
  have k00 : Kp V V := Kp.refl _
  refine wp_region_held_drew (S := fun w' => w'.cell? ⟨w1.heap.size, 0, none⟩ = some (.bool true) ∧ w'.cell? ⟨w1.heap.size, 1, none⟩ = some (.int .i64 0) ∧ w'.cell? ⟨w1.heap.size, 2, none⟩ = some (.slice (some ⟨ba, oa, none⟩) s.length c1') ∧ w'.cell? ⟨w1.heap.size, 3, none⟩ = some (.slice (some ⟨bb, ob, none⟩) t.length c2') ∧ w'.cell? ⟨w.heap.size + 1, 0, none⟩ = some (.int .i64 S) ∧ w'.cell? ⟨w.heap.size + 1, 1, none⟩ = some (.int .i64 T) ∧ w'.cell? ⟨ba, oa, none⟩ = some (.int .i64 x) ∧ w'.cell? ⟨bb, ob + (t.length - 1) * 2 + 1, none⟩ = some (.int .i64 y) ∧ Kp V w') (by kernel_rfl) ?_ (fun hHeld0 => ?_)
  ·(try dsimp only); exact KS.out _ (ky k00)
  refine tkv 0 niA0 ?_
  (try simp only [Act.put, niA0, xA, xB, xC])
  refine tkv 1 niA1 ?_
  (try simp only [Act.put, niA1, xA, xB, xC])
  refine tkv 2 niA2 ?_
  (try simp only [Act.put, niA2, xA, xB, xC])
  refine tkv 3 niA3 ?_
  (try simp only [Act.put, niA3, xA, xB, xC])
  refine tkv 4 niA4 ?_
  (try simp only [Act.put, niA4, xA, xB, xC])
  refine tkv 5 niA5 ?_
  (try simp only [Act.put, niA5, xA, xB, xC])
  refine tkv 6 niA6 ?_
  (try simp only [Act.put, niA6, xA, xB, xC])
  refine tkv 7 niA7 ?_
  (try simp only [Act.put, niA7, xA, xB, xC])
  refine tkv 8 niA8 ?_
  (try simp only [Act.put, niA8, xA, xB, xC])
  refine tkn 9 niA9 ?_
  (try simp only [Act.put, niA9, xA, xB, xC])
  refine tkn 10 niA10 ?_
  (try simp only [Act.put, niA10, xA, xB, xC])
  refine tkn 11 niA11 ?_
  (try simp only [Act.put, niA11, xA, xB, xC])
  refine tkn 12 niA12 ?_
  (try simp only [Act.put, niA12, xA, xB, xC])
  refine tkn 13 niA13 ?_
  (try simp only [Act.put, niA13, xA, xB, xC])
  refine tkn 14 niA14 ?_
  (try simp only [Act.put, niA14, xA, xB, xC])
  refine tkn 15 niA15 ?_
  (try simp only [Act.put, niA15, xA, xB, xC])
  refine tkn 16 niA16 ?_
  (try simp only [Act.put, niA16, xA, xB, xC])
  refine tkn 17 niA17 ?_
  (try simp only [Act.put, niA17, xA, xB, xC])
  refine tkn 18 niA18 ?_
  (try simp only [Act.put, niA18, xA, xB, xC])
  refine tkn 19 niA19 ?_
  (try simp only [Act.put, niA19, xA, xB, xC])
  refine tkn 20 niA20 ?_
  (try simp only [Act.put, niA20, xA, xB, xC])
  refine tkv 21 niA21 ?_
  (try simp only [Act.put, niA21, xA, xB, xC])
  refine tkv 22 niA22 ?_
  (try simp only [Act.put, niA22, xA, xB, xC])
  refine wpAnyH_done (by kernel_rfl) ?_ _
  go_wp2
  go_ret
  exact ⟨rfl, KV.out.trans kw⟩
 | true =>
  go_upto_region 5 with fail
  rw [← HV.out]
  clear f4 f5 zp
  have k00 : Kp V V := Kp.refl _
  refine wp_region_held_drew (S := fun w' => w'.cell? ⟨w1.heap.size, 0, none⟩ = some (.bool true) ∧ w'.cell? ⟨w1.heap.size, 1, none⟩ = some (.int .i64 0) ∧ w'.cell? ⟨w1.heap.size, 2, none⟩ = some (.slice (some ⟨ba, oa, none⟩) s.length c1') ∧ w'.cell? ⟨w1.heap.size, 3, none⟩ = some (.slice (some ⟨bb, ob, none⟩) t.length c2') ∧ w'.cell? ⟨w.heap.size + 1, 0, none⟩ = some (.int .i64 S) ∧ w'.cell? ⟨w.heap.size + 1, 1, none⟩ = some (.int .i64 T) ∧ w'.cell? ⟨ba, oa, none⟩ = some (.int .i64 x) ∧ w'.cell? ⟨bb, ob + (t.length - 1) * 2 + 1, none⟩ = some (.int .i64 y) ∧ Kp V w') (by kernel_rfl) ?_ (fun hHeld0 => ?_)
  ·(try dsimp only); exact KS.out _ (ky k00)
  refine tkv 0 niA0 ?_
  (try simp only [Act.put, niA0, xA, xB, xC])
  refine tkv 1 niA1 ?_
  (try simp only [Act.put, niA1, xA, xB, xC])
  refine tkv 2 niA2 ?_
  (try simp only [Act.put, niA2, xA, xB, xC])
  refine tkv 3 niA3 ?_
  (try simp only [Act.put, niA3, xA, xB, xC])
  refine tkv 4 niA4 ?_
  (try simp only [Act.put, niA4, xA, xB, xC])
  refine tkv 5 niA5 ?_
  (try simp only [Act.put, niA5, xA, xB, xC])
  refine tkv 6 niA6 ?_
  (try simp only [Act.put, niA6, xA, xB, xC])
  refine tkv 7 niA7 ?_
  (try simp only [Act.put, niA7, xA, xB, xC])
  refine tkv 8 niA8 ?_
  (try simp only [Act.put, niA8, xA, xB, xC])
  refine tkv 9 niA9 ?_
  (try simp only [Act.put, niA9, xA, xB, xC])
  refine tkv 10 niA10 ?_
  (try simp only [Act.put, niA10, xA, xB, xC])
  refine tkv 11 niA11 ?_
  (try simp only [Act.put, niA11, xA, xB, xC])
  refine tkv 12 niA12 ?_
  (try simp only [Act.put, niA12, xA, xB, xC])
  refine tkv 13 niA13 ?_
  (try simp only [Act.put, niA13, xA, xB, xC])
  refine tkv 14 niA14 ?_
  (try simp only [Act.put, niA14, xA, xB, xC])
  refine tkv 15 niA15 ?_
  (try simp only [Act.put, niA15, xA, xB, xC])
  refine tkv 16 niA16 ?_
  (try simp only [Act.put, niA16, xA, xB, xC])
  refine tkv 17 niA17 ?_
  (try simp only [Act.put, niA17, xA, xB, xC])
  refine tkv 18 niA18 ?_
  (try simp only [Act.put, niA18, xA, xB, xC])
  refine tkv 19 niA19 ?_
  (try simp only [Act.put, niA19, xA, xB, xC])
  refine tkv 20 niA20 ?_
  (try simp only [Act.put, niA20, xA, xB, xC])
  refine tkv 21 niA21 ?_
  (try simp only [Act.put, niA21, xA, xB, xC])
  refine tkv 22 niA22 ?_
  (try simp only [Act.put, niA22, xA, xB, xC])
  refine wpAnyH_done (by kernel_rfl) ?_ _
  go_wp2
  go_ret
  exact ⟨rfl, KV.out.trans kw⟩
theorem rins_any (f : LF) (va vb : Value) (S T : Int) (w : World) (h : LeafOk w f va vb) (b1 : -9223372036854775808 ≤ S) (b2 : S ≤ 9223372036854775807) (b3 : -9223372036854775808 ≤ T) (b4 : T ≤ 9223372036854775807) :
  Calls Tryz.prog 46 #[leafV f va vb, .agg #[.int .i64 S, .int .i64 T]] w fun e w' => e = .returned (.bool (rinB f S T)) ∧ Kp w w' := by
 rcases tidy_cases f with ⟨k, s, hg, sb⟩ | ⟨s, e, hg, s1, s2, n1, n2⟩
 ·exact rins_u k s f va vb S T w h hg sb b1 b2 b3 b4
 ·exact rins_s s e f va vb S T w h hg n1 n2
theorem rin_no {l : List LF} {S T : Int} (h : ∀ i, i < l.length → rinB (lat l i) S T = false) : inB l S T = false := by
 rcases Bool.eq_false_or_eq_true (inB l S T) with q | q
 ·unfold inB at q
  rw [Bool.and_eq_true, List.any_eq_true] at q
  obtain ⟨h1, f, hf, h2⟩ := q
  obtain ⟨i, hi, rfl⟩ := List.mem_iff_getElem.1 hf
  have := h i hi
  have e : lat l i = l[i] := by unfold lat; rw [List.getD_eq_getElem?_getD, List.getElem?_eq_getElem hi]; rfl
  unfold rinB at this
  rw [e, h1, h2] at this
  cases this
 ·exact q
theorem rin_yes {l : List LF} {S T : Int} {k : Nat} (hk : k < l.length) (g : rinB (lat l k) S T = true) : inB l S T = true := by
 unfold rinB at g
 unfold inB
 rw [Bool.and_eq_true] at g ⊢
 exact ⟨g.1, List.any_eq_true.2 ⟨_, lat_mem hk, g.2⟩⟩
theorem ihas_no {l : List LF} {S T : Int} (h : ∀ i, i < l.length → hasF (famR (lat l i)) S T = false) : hasL l S T = false := by
 rcases Bool.eq_false_or_eq_true (hasL l S T) with q | q
 ·obtain ⟨f, hf, h2⟩ := (hasL_iff _ _ _).1 q
  obtain ⟨i, hi, rfl⟩ := List.mem_iff_getElem.1 hf
  have := h i hi
  have e : lat l i = l[i] := by unfold lat; rw [List.getD_eq_getElem?_getD, List.getElem?_eq_getElem hi]; rfl
  rw [e, h2] at this
  cases this
 ·exact q
theorem ihas_yes {l : List LF} {S T : Int} {k : Nat} (hk : k < l.length) (g : hasF (famR (lat l k)) S T = true) : hasL l S T = true := (hasL_iff _ _ _).2 ⟨_, lat_mem hk, g⟩
abbrev niB0 : Oper := ⟨some 12, .move (.tmp 0), 22, "ref.go:31", #[], none⟩
abbrev niB1 : Oper := ⟨some 13, .move (.tmp 5), 3, "ref.go:31", #[], none⟩
abbrev niB2 : Oper := ⟨some 14, .indexAddr 22 (.tmp 12) (.tmp 13), 0, "ref.go:31", #[⟨0, .data⟩, ⟨1, .data⟩], none⟩
abbrev niB3 : Oper := ⟨some 15, .load 44 (.tmp 14), 44, "ref.go:31", #[⟨2, .data⟩], none⟩
abbrev niB4 : Oper := ⟨some 16, .load 31 (.tmp 3), 31, "ref.go:31", #[], none⟩
abbrev niB5 : Oper := ⟨some 17, .call ⟨.value (.func 46), #[.tmp 15, .tmp 16], #[44, 31]⟩, 4, "ref.go:31", #[⟨3, .data⟩, ⟨4, .data⟩], none⟩
theorem rInside_any (v : Value) (l : List LF) (S E : Int) (w : World) (hv : LeavesAt w v l) (hl : LsOk l) (b1 : -9223372036854775808 ≤ S) (b2 : S ≤ 9223372036854775807) (b3 : -9223372036854775808 ≤ E) (b4 : E ≤ 9223372036854775807) :
  Calls Tryz.prog 19 #[v, .agg #[.int .i64 S, .int .i64 E]] w fun e w' => e = .returned (.bool (inB l S E)) ∧ Kp w w' := by
 have hm := hv.len
 unfold maxLen at hm
 obtain ⟨ad, cp, rfl⟩ := hv.slice
 obtain ⟨W0, hW⟩ : ∃ x, x = w.alloc (.cells #[.int .i64 S, .int .i64 E] 31) := ⟨_, rfl⟩
 have k0 : Kp w W0 := by rw [hW]; exact Kp.alloc _ _
 have g0 : W0.heap[w.heap.size]? = some (.cells #[.int .i64 S, .int .i64 E] 31 (0, 0)) := by rw [hW]; exact heap_at _ _ _ rfl
 have HB := Hd (fun w' (kq : Kp W0 w') => row2 (heap_block kq g0))
 have HV := Hd (hv.kp k0)
 have HL := Hd hl
 have NO := Hd (fun h => rin_no (l := l) (S := S) (T := E) h)
 have YES := Hd (fun k (h : k < l.length) g => rin_yes (l := l) (S := S) (T := E) h g)
 have K0 := Hd k0
 have HW := Hd hW
 clear hv hl k0 g0 hW
 generalize inB l S E = r at *
 go_enter Tryz.func19, Tryz.ntmps19
 go_wp2_with fail
 rw [← HW.out]
 go_loopw [5] (fun i wr => ∃ k : Nat, k ≤ l.length ∧ i = .int .i64 k ∧ Hid (∀ i, i < k → rinB (lat l i) S E = false) ∧ Hid (Kp W0 wr)) (fun i _ => l.length - (intOf i).toNat)
 case atStart => exact ⟨0, Nat.zero_le _, rfl, Hd (fun i h => by omega), Hd (Kp.refl _)⟩
 case round =>
  obtain ⟨k, hk, rfl, FA, J⟩ := hrel
  obtain ⟨wx, hwx⟩ : ∃ x, x = wr := ⟨_, rfl⟩
  subst hwx
  by_cases hlt : k < l.length
  ·have q1 : decide ((k : Int) < (l.length : Int)) = true := dT
   rcases HV.out.kp J.out with ⟨_, _, _, e⟩ | ⟨b0, off, cap, ev, hc, hmx, hx⟩
   ·rw [e] at hlt; simp at hlt
   cases ev
   obtain ⟨va, vb, d0, d1, d2, d3, ra, rb⟩ := hx k hlt
   have LOK := HL.out _ (lat_mem hlt)
   obtain ⟨f, hf⟩ : ∃ f, lat l k = f := ⟨_, rfl⟩
   rw [hf] at d0 d1 ra rb
   (try rw [hf] at LOK)
   obtain ⟨sp, u, a, b⟩ := f
   simp only at d0 d1 ra rb
   (try simp only at LOK)
   obtain ⟨aa, ca, rfl⟩ := ra.slice
   obtain ⟨ab, cb, rfl⟩ := rb.slice
   have HF := Hd hf
   have z1 : (k : Int) < (l.length : Int) := by omega
   have z2 : (0 : Int) ≤ (k : Int) := by omega
   clear hx hc hmx hf
   have C := Hd (fun w1 (kk : Kp wx w1) => rins_any ⟨sp, u, a, b⟩ _ _ S E w1 ⟨ra.kp kk, rb.kp kk, LOK.1, LOK.2.1, LOK.2.2.1, LOK.2.2.2⟩ b1 b2 b3 b4)
   simp only [leafV] at C
   have N := Hd (fun (g : rinB ⟨sp, u, a, b⟩ S E = true) => YES.out k hlt (show rinB (lat l k) S E = true by rw [HF.out]; exact g))
   have Y := Hd (fun (g : rinB ⟨sp, u, a, b⟩ S E = false) => (by rw [HF.out]; exact g : rinB (lat l k) S E = false))
   generalize rinB ⟨sp, u, a, b⟩ S E = eb at *
   obtain ⟨s0, s1⟩ := HB.out wx J.out
   have KS := Hd (fun w' (kq : Kp wx w') => show w'.cell? ⟨b0, off + k * 4, none⟩ = some (.bool sp) ∧ w'.cell? ⟨b0, off + k * 4 + 1, none⟩ = some (.int .i64 u) ∧ w'.cell? ⟨b0, off + k * 4 + 2, none⟩ = some (.slice aa a.length ca) ∧ w'.cell? ⟨b0, off + k * 4 + 3, none⟩ = some (.slice ab b.length cb) ∧ w'.cell? ⟨w.heap.size, 0, none⟩ = some (.int .i64 S) ∧ w'.cell? ⟨w.heap.size, 1, none⟩ = some (.int .i64 E) ∧ Kp wx w' from ⟨cell_up kq d0, cell_up kq d1, cell_up kq d2, cell_up kq d3, cell_up kq s0, cell_up kq s1, kq⟩)
   have k00 : Kp wx wx := Kp.refl _
   have z1 : (0 : Int) ≤ (k : Int) := by omega
   have z3 : (k : Int) < (l.length : Int) := by omega
   clear ra rb YES d0 d1 d2 d3 s0 s1
   go_upto_region 4 with fail
   cases eb with
   | true =>
    have hr := N.out (by first | rfl | trivial)
    subst hr
    refine wp_region_held_drew (S := fun w' => w'.cell? ⟨b0, off + k * 4, none⟩ = some (.bool sp) ∧ w'.cell? ⟨b0, off + k * 4 + 1, none⟩ = some (.int .i64 u) ∧ w'.cell? ⟨b0, off + k * 4 + 2, none⟩ = some (.slice aa a.length ca) ∧ w'.cell? ⟨b0, off + k * 4 + 3, none⟩ = some (.slice ab b.length cb) ∧ w'.cell? ⟨w.heap.size, 0, none⟩ = some (.int .i64 S) ∧ w'.cell? ⟨w.heap.size, 1, none⟩ = some (.int .i64 E) ∧ Kp wx w') (by kernel_rfl) ?_ (fun hHeld0 => ?_)
    ·(try dsimp only); exact KS.out _ (ky k00)
    refine tkv 0 niB0 ?_
    (try simp only [Act.put, niB0, xA, xB, xC])
    refine tkv 1 niB1 ?_
    (try simp only [Act.put, niB1, xA, xB, xC])
    refine tkv 2 niB2 ?_
    (try simp only [Act.put, niB2, xA, xB, xC])
    refine tkv 3 niB3 ?_
    (try simp only [Act.put, niB3, xA, xB, xC])
    refine tkv 4 niB4 ?_
    (try simp only [Act.put, niB4, xA, xB, xC])
    refine tkE 5 niB5 rfl (by kernel_rfl) (fun K hK => ?_)
    go_simp
    (refine (C.out _ (ky k00)).mono ?_; rintro e w1 ⟨rfl, kq1⟩; have kkq : Kp wx w1 := Kp.trans (show Kp wx _ from (ky k00)) kq1; clear kq1)
    (try go_wp2_with fail)
    refine hK.out _ _ ?_ (fun hHeld1 => ?_)
    ·(try dsimp only); exact KS.out _ (ky kkq)
    clear hK K hHeld0
    (try simp only [Act.put, niB5, xA, xB, xC])
    refine wpAnyH_done (by kernel_rfl) ?_ _
    go_wp2
    go_ret
    exact ⟨rfl, K0.out.trans (J.out.trans (Kp.trans kkq kx))⟩
   | false =>
    refine wp_region_held_drew (S := fun w' => w'.cell? ⟨b0, off + k * 4, none⟩ = some (.bool sp) ∧ w'.cell? ⟨b0, off + k * 4 + 1, none⟩ = some (.int .i64 u) ∧ w'.cell? ⟨b0, off + k * 4 + 2, none⟩ = some (.slice aa a.length ca) ∧ w'.cell? ⟨b0, off + k * 4 + 3, none⟩ = some (.slice ab b.length cb) ∧ w'.cell? ⟨w.heap.size, 0, none⟩ = some (.int .i64 S) ∧ w'.cell? ⟨w.heap.size, 1, none⟩ = some (.int .i64 E) ∧ Kp wx w') (by kernel_rfl) ?_ (fun hHeld0 => ?_)
    ·(try dsimp only); exact KS.out _ (ky k00)
    refine tkv 0 niB0 ?_
    (try simp only [Act.put, niB0, xA, xB, xC])
    refine tkv 1 niB1 ?_
    (try simp only [Act.put, niB1, xA, xB, xC])
    refine tkv 2 niB2 ?_
    (try simp only [Act.put, niB2, xA, xB, xC])
    refine tkv 3 niB3 ?_
    (try simp only [Act.put, niB3, xA, xB, xC])
    refine tkv 4 niB4 ?_
    (try simp only [Act.put, niB4, xA, xB, xC])
    refine tkE 5 niB5 rfl (by kernel_rfl) (fun K hK => ?_)
    go_simp
    (refine (C.out _ (ky k00)).mono ?_; rintro e w1 ⟨rfl, kq1⟩; have kkq : Kp wx w1 := Kp.trans (show Kp wx _ from (ky k00)) kq1; clear kq1)
    (try go_wp2_with fail)
    refine hK.out _ _ ?_ (fun hHeld1 => ?_)
    ·(try dsimp only); exact KS.out _ (ky kkq)
    clear hK K hHeld0
    (try simp only [Act.put, niB5, xA, xB, xC])
    refine wpAnyH_done (by kernel_rfl) ?_ _
    go_wp2
    go_roundw
    case rel => exact ⟨k + 1, by omega, by go_num, Hd (fun i hi => by
     by_cases c : i < k
     ·exact FA.out i c
     ·obtain rfl : i = k := by omega
      exact Y.out (by first | rfl | trivial)), Hd (J.out.trans (Kp.trans kkq kx))⟩
    case measure => simp [intOf]; omega
  ·have q1 : decide ((k : Int) < (l.length : Int)) = false := dF
   obtain rfl : k = l.length := by omega
   have hr := NO.out FA.out
   subst hr
   go_wp2
   go_ret
   exact ⟨rfl, K0.out.trans J.out⟩
abbrev niC0 : Oper := ⟨some 12, .move (.tmp 0), 22, "ref.go:94", #[], none⟩
abbrev niC1 : Oper := ⟨some 13, .move (.tmp 5), 3, "ref.go:94", #[], none⟩
abbrev niC2 : Oper := ⟨some 14, .indexAddr 22 (.tmp 12) (.tmp 13), 0, "ref.go:94", #[⟨0, .data⟩, ⟨1, .data⟩], none⟩
abbrev niC3 : Oper := ⟨some 15, .load 44 (.tmp 14), 44, "ref.go:94", #[⟨2, .data⟩], none⟩
abbrev niC4 : Oper := ⟨some 16, .load 31 (.tmp 3), 31, "ref.go:94", #[], none⟩
abbrev niC5 : Oper := ⟨some 17, .call ⟨.value (.func 48), #[.tmp 15, .tmp 16], #[44, 31]⟩, 4, "ref.go:94", #[⟨3, .data⟩, ⟨4, .data⟩], none⟩
theorem rHas15_any (v : Value) (l : List LF) (S E : Int) (w : World) (hv : LeavesAt w v l) (hl : LsOk l) (b1 : -9223372036854775808 ≤ S) (b2 : S ≤ 9223372036854775807) (b3 : -9223372036854775808 ≤ E) (b4 : E ≤ 9223372036854775807) :
  Calls Tryz.prog 21 #[v, .agg #[.int .i64 S, .int .i64 E]] w fun e w' => e = .returned (.bool (hasL l S E)) ∧ Kp w w' := by
 have hm := hv.len
 unfold maxLen at hm
 obtain ⟨ad, cp, rfl⟩ := hv.slice
 obtain ⟨W0, hW⟩ : ∃ x, x = w.alloc (.cells #[.int .i64 S, .int .i64 E] 31) := ⟨_, rfl⟩
 have k0 : Kp w W0 := by rw [hW]; exact Kp.alloc _ _
 have g0 : W0.heap[w.heap.size]? = some (.cells #[.int .i64 S, .int .i64 E] 31 (0, 0)) := by rw [hW]; exact heap_at _ _ _ rfl
 have HB := Hd (fun w' (kq : Kp W0 w') => row2 (heap_block kq g0))
 have HV := Hd (hv.kp k0)
 have HL := Hd hl
 have NO := Hd (fun h => ihas_no (l := l) (S := S) (T := E) h)
 have YES := Hd (fun k (h : k < l.length) g => ihas_yes (l := l) (S := S) (T := E) h g)
 have K0 := Hd k0
 have HW := Hd hW
 clear hv hl k0 g0 hW
 generalize hasL l S E = r at *
 go_enter Tryz.func21, Tryz.ntmps21
 go_wp2_with fail
 rw [← HW.out]
 go_loopw [5] (fun i wr => ∃ k : Nat, k ≤ l.length ∧ i = .int .i64 k ∧ Hid (∀ i, i < k → hasF (famR (lat l i)) S E = false) ∧ Hid (Kp W0 wr)) (fun i _ => l.length - (intOf i).toNat)
 case atStart => exact ⟨0, Nat.zero_le _, rfl, Hd (fun i h => by omega), Hd (Kp.refl _)⟩
 case round =>
  obtain ⟨k, hk, rfl, FA, J⟩ := hrel
  obtain ⟨wx, hwx⟩ : ∃ x, x = wr := ⟨_, rfl⟩
  subst hwx
  by_cases hlt : k < l.length
  ·have q1 : decide ((k : Int) < (l.length : Int)) = true := dT
   rcases HV.out.kp J.out with ⟨_, _, _, e⟩ | ⟨b0, off, cap, ev, hc, hmx, hx⟩
   ·rw [e] at hlt; simp at hlt
   cases ev
   obtain ⟨va, vb, d0, d1, d2, d3, ra, rb⟩ := hx k hlt
   have LOK := HL.out _ (lat_mem hlt)
   obtain ⟨f, hf⟩ : ∃ f, lat l k = f := ⟨_, rfl⟩
   rw [hf] at d0 d1 ra rb
   (try rw [hf] at LOK)
   obtain ⟨sp, u, a, b⟩ := f
   simp only at d0 d1 ra rb
   (try simp only at LOK)
   obtain ⟨aa, ca, rfl⟩ := ra.slice
   obtain ⟨ab, cb, rfl⟩ := rb.slice
   have HF := Hd hf
   have z1 : (k : Int) < (l.length : Int) := by omega
   have z2 : (0 : Int) ≤ (k : Int) := by omega
   clear hx hc hmx hf
   have C := Hd (fun w1 (kk : Kp wx w1) => refHas_any ⟨sp, u, a, b⟩ _ _ S E w1 ⟨ra.kp kk, rb.kp kk, LOK.1, LOK.2.1, LOK.2.2.1, LOK.2.2.2⟩ b1 b2)
   simp only [leafV] at C
   have N := Hd (fun (g : hasF (famR ⟨sp, u, a, b⟩) S E = true) => YES.out k hlt (show hasF (famR (lat l k)) S E = true by rw [HF.out]; exact g))
   have Y := Hd (fun (g : hasF (famR ⟨sp, u, a, b⟩) S E = false) => (by rw [HF.out]; exact g : hasF (famR (lat l k)) S E = false))
   generalize hasF (famR ⟨sp, u, a, b⟩) S E = eb at *
   obtain ⟨s0, s1⟩ := HB.out wx J.out
   have KS := Hd (fun w' (kq : Kp wx w') => show w'.cell? ⟨b0, off + k * 4, none⟩ = some (.bool sp) ∧ w'.cell? ⟨b0, off + k * 4 + 1, none⟩ = some (.int .i64 u) ∧ w'.cell? ⟨b0, off + k * 4 + 2, none⟩ = some (.slice aa a.length ca) ∧ w'.cell? ⟨b0, off + k * 4 + 3, none⟩ = some (.slice ab b.length cb) ∧ w'.cell? ⟨w.heap.size, 0, none⟩ = some (.int .i64 S) ∧ w'.cell? ⟨w.heap.size, 1, none⟩ = some (.int .i64 E) ∧ Kp wx w' from ⟨cell_up kq d0, cell_up kq d1, cell_up kq d2, cell_up kq d3, cell_up kq s0, cell_up kq s1, kq⟩)
   have k00 : Kp wx wx := Kp.refl _
   have z1 : (0 : Int) ≤ (k : Int) := by omega
   have z3 : (k : Int) < (l.length : Int) := by omega
   clear ra rb YES d0 d1 d2 d3 s0 s1
   go_upto_region 4 with fail
   cases eb with
   | true =>
    have hr := N.out (by first | rfl | trivial)
    subst hr
    refine wp_region_held_drew (S := fun w' => w'.cell? ⟨b0, off + k * 4, none⟩ = some (.bool sp) ∧ w'.cell? ⟨b0, off + k * 4 + 1, none⟩ = some (.int .i64 u) ∧ w'.cell? ⟨b0, off + k * 4 + 2, none⟩ = some (.slice aa a.length ca) ∧ w'.cell? ⟨b0, off + k * 4 + 3, none⟩ = some (.slice ab b.length cb) ∧ w'.cell? ⟨w.heap.size, 0, none⟩ = some (.int .i64 S) ∧ w'.cell? ⟨w.heap.size, 1, none⟩ = some (.int .i64 E) ∧ Kp wx w') (by kernel_rfl) ?_ (fun hHeld0 => ?_)
    ·(try dsimp only); exact KS.out _ (ky k00)
    refine tkv 0 niC0 ?_
    (try simp only [Act.put, niC0, xA, xB, xC])
    refine tkv 1 niC1 ?_
    (try simp only [Act.put, niC1, xA, xB, xC])
    refine tkv 2 niC2 ?_
    (try simp only [Act.put, niC2, xA, xB, xC])
    refine tkv 3 niC3 ?_
    (try simp only [Act.put, niC3, xA, xB, xC])
    refine tkv 4 niC4 ?_
    (try simp only [Act.put, niC4, xA, xB, xC])
    refine tkE 5 niC5 rfl (by kernel_rfl) (fun K hK => ?_)
    go_simp
    (refine (C.out _ (ky k00)).mono ?_; rintro e w1 ⟨rfl, kq1⟩; have kkq : Kp wx w1 := Kp.trans (show Kp wx _ from (ky k00)) kq1; clear kq1)
    (try go_wp2_with fail)
    refine hK.out _ _ ?_ (fun hHeld1 => ?_)
    ·(try dsimp only); exact KS.out _ (ky kkq)
    clear hK K hHeld0
    (try simp only [Act.put, niC5, xA, xB, xC])
    refine wpAnyH_done (by kernel_rfl) ?_ _
    go_wp2
    go_ret
    exact ⟨rfl, K0.out.trans (J.out.trans (Kp.trans kkq kx))⟩
   | false =>
    refine wp_region_held_drew (S := fun w' => w'.cell? ⟨b0, off + k * 4, none⟩ = some (.bool sp) ∧ w'.cell? ⟨b0, off + k * 4 + 1, none⟩ = some (.int .i64 u) ∧ w'.cell? ⟨b0, off + k * 4 + 2, none⟩ = some (.slice aa a.length ca) ∧ w'.cell? ⟨b0, off + k * 4 + 3, none⟩ = some (.slice ab b.length cb) ∧ w'.cell? ⟨w.heap.size, 0, none⟩ = some (.int .i64 S) ∧ w'.cell? ⟨w.heap.size, 1, none⟩ = some (.int .i64 E) ∧ Kp wx w') (by kernel_rfl) ?_ (fun hHeld0 => ?_)
    ·(try dsimp only); exact KS.out _ (ky k00)
    refine tkv 0 niC0 ?_
    (try simp only [Act.put, niC0, xA, xB, xC])
    refine tkv 1 niC1 ?_
    (try simp only [Act.put, niC1, xA, xB, xC])
    refine tkv 2 niC2 ?_
    (try simp only [Act.put, niC2, xA, xB, xC])
    refine tkv 3 niC3 ?_
    (try simp only [Act.put, niC3, xA, xB, xC])
    refine tkv 4 niC4 ?_
    (try simp only [Act.put, niC4, xA, xB, xC])
    refine tkE 5 niC5 rfl (by kernel_rfl) (fun K hK => ?_)
    go_simp
    (refine (C.out _ (ky k00)).mono ?_; rintro e w1 ⟨rfl, kq1⟩; have kkq : Kp wx w1 := Kp.trans (show Kp wx _ from (ky k00)) kq1; clear kq1)
    (try go_wp2_with fail)
    refine hK.out _ _ ?_ (fun hHeld1 => ?_)
    ·(try dsimp only); exact KS.out _ (ky kkq)
    clear hK K hHeld0
    (try simp only [Act.put, niC5, xA, xB, xC])
    refine wpAnyH_done (by kernel_rfl) ?_ _
    go_wp2
    go_roundw
    case rel => exact ⟨k + 1, by omega, by go_num, Hd (fun i hi => by
     by_cases c : i < k
     ·exact FA.out i c
     ·obtain rfl : i = k := by omega
      exact Y.out (by first | rfl | trivial)), Hd (J.out.trans (Kp.trans kkq kx))⟩
    case measure => simp [intOf]; omega
  ·have q1 : decide ((k : Int) < (l.length : Int)) = false := dF
   obtain rfl : k = l.length := by omega
   have hr := NO.out FA.out
   subst hr
   go_wp2
   go_ret
   exact ⟨rfl, K0.out.trans J.out⟩
theorem empty_lf (F : Fam) : (lfOf F).a.length = 0 ↔ emptyF F = true := by
 cases F with
 | units k s =>
  rw [emptyF_u, decide_eq_true_eq]
  by_cases h : s.length = 0
  ·rw [lfOf_u0 h]; exact iff_of_true rfl h
  ·rw [lfOf_u1 h]
 | span s e =>
  rw [emptyF_s, decide_eq_true_eq]
  by_cases h : s.length = 0
  ·rw [lfOf_s0 h]; exact iff_of_true rfl h
  ·rw [lfOf_s1 h]
theorem part_is (s e : List R) (r : R) : partF s e r = if (lfOf (famR (cutLF s e r))).a.length = 0 then [] else [lfOf (famR (cutLF s e r))] := by
 unfold partF partG
 by_cases h : emptyF (famR (cutLF s e r)) = true
 ·rw [if_pos h, if_pos ((empty_lf _).2 h)]
 ·rw [if_neg h, if_neg (fun q => h ((empty_lf _).1 q))]
abbrev niD0 : Oper := ⟨some 8, .fieldAddr 44 (.tmp 3) 2, 0, "ref.go:72", #[], none⟩
abbrev niD1 : Oper := ⟨some 9, .load 34 (.tmp 8), 34, "ref.go:72", #[⟨0, .data⟩], none⟩
abbrev niD2 : Oper := ⟨some 10, .move (.tmp 1), 3, "ref.go:72", #[], none⟩
abbrev niD3 : Oper := ⟨some 11, .move (.tmp 2), 3, "ref.go:72", #[], none⟩
abbrev niD4 : Oper := ⟨some 12, .call ⟨.value (.func 137), #[.tmp 9, .tmp 10, .tmp 11], #[34, 3, 3]⟩, 34, "ref.go:72", #[⟨1, .data⟩, ⟨2, .data⟩, ⟨3, .data⟩], none⟩
abbrev niD5 : Oper := ⟨some 13, .fieldAddr 44 (.tmp 3) 3, 0, "ref.go:72", #[], none⟩
abbrev niD6 : Oper := ⟨some 14, .load 34 (.tmp 13), 34, "ref.go:72", #[⟨5, .data⟩], none⟩
abbrev niD7 : Oper := ⟨some 15, .move (.tmp 1), 3, "ref.go:72", #[], none⟩
abbrev niD8 : Oper := ⟨some 16, .move (.tmp 2), 3, "ref.go:72", #[], none⟩
abbrev niD9 : Oper := ⟨some 17, .call ⟨.value (.func 137), #[.tmp 14, .tmp 15, .tmp 16], #[34, 3, 3]⟩, 34, "ref.go:72", #[⟨6, .data⟩, ⟨7, .data⟩, ⟨8, .data⟩, ⟨4, .chain⟩], none⟩
abbrev niD10 : Oper := ⟨some 18, .build 44 #[(0, .const (.bool true)), (2, .tmp 12), (3, .tmp 17)], 44, "ref.go:72", #[⟨4, .data⟩, ⟨9, .data⟩], none⟩
abbrev niD11 : Oper := ⟨some 19, .call ⟨.value (.func 81), #[.tmp 18], #[44]⟩, 44, "ref.go:72", #[⟨10, .data⟩, ⟨9, .chain⟩], none⟩
abbrev niD12 : Oper := ⟨some 7, .alloc 44, 0, "ref.go:72", #[], none⟩
abbrev niD13 : Oper := ⟨none, .store 44 (.tmp 7) (.tmp 19), 0, "ref.go:72", #[⟨12, .data⟩, ⟨11, .data⟩, ⟨11, .chain⟩, ⟨0, .phase⟩, ⟨1, .phase⟩, ⟨2, .phase⟩, ⟨3, .phase⟩, ⟨4, .phase⟩, ⟨5, .phase⟩, ⟨6, .phase⟩, ⟨7, .phase⟩, ⟨8, .phase⟩, ⟨9, .phase⟩, ⟨10, .phase⟩, ⟨11, .phase⟩, ⟨12, .phase⟩], none⟩
end Go.Proofs.YtcooaoponkkpeaaGreatDoor
