/-
  Layer 10: TreeSame, one of the last fields differs.
-/
import Derived.Test.YtbjnghmmfolaeaaDoorGTrB
namespace Go.Proofs.YtbjnghmmfolaeaaDoor
open Go.RowKit
set_option linter.unusedVariables false
set_option linter.unusedSimpArgs false
set_option maxHeartbeats 16000000 in
set_option maxRecDepth 100000 in
theorem treeSame_yes4 (k pk : Int) (y m q : ByteArray) (a t : Bool) (l : List ND) (ad : Option Addr) (cp : Nat) (q' : ByteArray) (a' t' : Bool) (l' : List ND) (ad' : Option Addr) (cp' : Nat) (w : World) (hu : NodesAt w (.slice ad l.length cp) l) (hv : NodesAt w (.slice ad' l'.length cp') l') (bn : cntL l ≤ 2000000) (bm : cntL l' ≤ 2000000) (gk : -9223372036854775808 ≤ k ∧ k ≤ 9223372036854775807) (T : TabSH w) (hf : fewN (.mk k ⟨pk, y, m, q⟩ a t l : ND) = true) (hg : fewN (.mk k ⟨pk, y, m, q'⟩ a' t' l' : ND) = true) (hk : q ≠ q') : Calls Tryd.prog 11 #[.agg #[.int .i64 k, .int .i64 pk, .string y, .string m, .string q, .bool a, .bool t, .slice ad l.length cp], .agg #[.int .i64 k, .int .i64 pk, .string y, .string m, .string q', .bool a', .bool t', .slice ad' l'.length cp']] w fun e w' => e = .returned (.bool true) ∧ Kp w w' := by
  have AW := Lib.hid (fun w1 (qq : Kp w w1) => awake10 w1 (T.kp qq))
  have F1 : ∀ w1, Kp w w1 → Calls Tryd.prog 36 #[.agg #[.int .i64 k, .int .i64 pk, .string y, .string m, .string q, .bool a, .bool t, .slice ad l.length cp]] w1 fun e w' => e = .returned (.bool (fewN (.mk k ⟨pk, y, m, q⟩ a t l : ND))) ∧ Kp w1 w' := fun w1 qq => rfewN_any (.mk k ⟨pk, y, m, q⟩ a t l : ND) (.slice ad l.length cp) w1 (hu.kp qq) bn
  have F2 : ∀ w1, Kp w w1 → Calls Tryd.prog 36 #[.agg #[.int .i64 k, .int .i64 pk, .string y, .string m, .string q', .bool a', .bool t', .slice ad' l'.length cp']] w1 fun e w' => e = .returned (.bool (fewN (.mk k ⟨pk, y, m, q'⟩ a' t' l' : ND))) ∧ Kp w1 w' := fun w1 qq => rfewN_any (.mk k ⟨pk, y, m, q'⟩ a' t' l' : ND) (.slice ad' l'.length cp') w1 (hv.kp qq) bm
  rw [hf] at F1
  rw [hg] at F2
  have F1H := Lib.hid F1
  have F2H := Lib.hid F2
  have cn := few_cnt hf
  have cm := few_cnt hg
  have hq := few_short hf
  have S6 : ∀ w1, Kp w w1 → Calls Tryd.prog 45 #[.agg #[.int .i64 k, .int .i64 pk, .string y, .string m, .string q, .bool (!a), .bool t, .slice ad l.length cp], .agg #[.int .i64 k, .int .i64 pk, .string y, .string m, .string q, .bool a, .bool t, .slice ad l.length cp]] w1 fun e w' => e = .returned (.bool false) ∧ Kp w1 w' := fun w1 qq => by
    have this := tSame_any (.mk k ⟨pk, y, m, q⟩ (!a) t l : ND) (.mk k ⟨pk, y, m, q⟩ a t l : ND) (.slice ad l.length cp) (.slice ad l.length cp) w1 (hu.kp qq) (hu.kp qq) cn
    rw [same_no (by intro h; simp at h)] at this
    exact this
  have H6 := Lib.hid S6
  clear S6
  have S7 : ∀ w1, Kp w w1 → Calls Tryd.prog 45 #[.agg #[.int .i64 k, .int .i64 pk, .string y, .string m, .string q, .bool a, .bool t, .slice ad l.length cp], .agg #[.int .i64 k, .int .i64 pk, .string y, .string m, .string q, .bool a, .bool (!t), .slice ad l.length cp]] w1 fun e w' => e = .returned (.bool false) ∧ Kp w1 w' := fun w1 qq => by
    have this := tSame_any (.mk k ⟨pk, y, m, q⟩ a t l : ND) (.mk k ⟨pk, y, m, q⟩ a (!t) l : ND) (.slice ad l.length cp) (.slice ad l.length cp) w1 (hu.kp qq) (hu.kp qq) cn
    rw [same_no (by intro h; simp at h)] at this
    exact this
  have H7 := Lib.hid S7
  clear S7
  have S8 : ∀ w1, Kp w w1 → Calls Tryd.prog 45 #[.agg #[.int .i64 (bits .xor .i64 k 1), .int .i64 pk, .string y, .string m, .string q, .bool a, .bool t, .slice ad l.length cp], .agg #[.int .i64 k, .int .i64 pk, .string y, .string m, .string q, .bool a, .bool t, .slice ad l.length cp]] w1 fun e w' => e = .returned (.bool false) ∧ Kp w1 w' := fun w1 qq => by
    have this := tSame_any (.mk (bits .xor .i64 k 1) ⟨pk, y, m, q⟩ a t l : ND) (.mk k ⟨pk, y, m, q⟩ a t l : ND) (.slice ad l.length cp) (.slice ad l.length cp) w1 (hu.kp qq) (hu.kp qq) cn
    rw [same_no (by intro h; simp only [ND.mk.injEq] at h; exact xor_ne k h.1)] at this
    exact this
  have H8 := Lib.hid S8
  clear S8
  have S9 : ∀ w1, Kp w w1 → Calls Tryd.prog 45 #[.agg #[.int .i64 k, .int .i64 pk, .string y, .string m, .string q, .bool a, .bool t, .slice ad l.length cp], .agg #[.int .i64 k, .int .i64 pk, .string y, .string m, .string (q ++ ⟨#[88]⟩), .bool a, .bool t, .slice ad l.length cp]] w1 fun e w' => e = .returned (.bool false) ∧ Kp w1 w' := fun w1 qq => by
    have this := tSame_any (.mk k ⟨pk, y, m, q⟩ a t l : ND) (.mk k ⟨pk, y, m, (q ++ ⟨#[88]⟩)⟩ a t l : ND) (.slice ad l.length cp) (.slice ad l.length cp) w1 (hu.kp qq) (hu.kp qq) cn
    rw [same_no (by intro h; simp only [ND.mk.injEq, PT.mk.injEq] at h; exact app_ne q h.2.1.2.2.2.symm)] at this
    exact this
  have H9 := Lib.hid S9
  clear S9
  have HN : (.mk k ⟨pk, y, m, q⟩ a t l : ND) ≠ (.mk k ⟨pk, y, m, q'⟩ a' t' l' : ND) := by
    intro h
    simp only [ND.mk.injEq, PT.mk.injEq] at h
    exact hk (by simp [h])
  have S1 : ∀ w1, Kp w w1 → Calls Tryd.prog 45 #[.agg #[.int .i64 k, .int .i64 pk, .string y, .string m, .string q, .bool a, .bool t, .slice ad l.length cp], .agg #[.int .i64 k, .int .i64 pk, .string y, .string m, .string q', .bool a', .bool t', .slice ad' l'.length cp']] w1 fun e w' => e = .returned (.bool false) ∧ Kp w1 w' := fun w1 qq => by
    have this := tSame_any (.mk k ⟨pk, y, m, q⟩ a t l : ND) (.mk k ⟨pk, y, m, q'⟩ a' t' l' : ND) (.slice ad l.length cp) (.slice ad' l'.length cp') w1 (hu.kp qq) (hv.kp qq) cn
    rw [same_no HN] at this
    exact this
  have H1 := Lib.hid S1
  clear S1
  have S2 : ∀ w1, Kp w w1 → Calls Tryd.prog 45 #[.agg #[.int .i64 k, .int .i64 pk, .string y, .string m, .string q', .bool a', .bool t', .slice ad' l'.length cp'], .agg #[.int .i64 k, .int .i64 pk, .string y, .string m, .string q, .bool a, .bool t, .slice ad l.length cp]] w1 fun e w' => e = .returned (.bool false) ∧ Kp w1 w' := fun w1 qq => by
    have this := tSame_any (.mk k ⟨pk, y, m, q'⟩ a' t' l' : ND) (.mk k ⟨pk, y, m, q⟩ a t l : ND) (.slice ad' l'.length cp') (.slice ad l.length cp) w1 (hv.kp qq) (hu.kp qq) cm
    rw [same_no (fun h => HN h.symm)] at this
    exact this
  have H2 := Lib.hid S2
  clear S2
  have HU := Lib.hid hu
  have HV := Lib.hid hv
  have HCN := Lib.hid cn
  have HCM := Lib.hid cm
  have e1 : (q.toList == q'.toList) = false := by
    rcases Bool.eq_false_or_eq_true (q.toList == q'.toList) with e | e
    · exact absurd ((bytes_iff _ _).1 e) hk
    · exact e
  clear hk HN
  clear F1 F2 hu hv T hf hg bn bm cn cm
  go_enter Tryd.func11, Tryd.ntmps11
  go_wp2_with fail
  refine (AW.out _ ((Kp.alloc _ _).trans (Kp.alloc _ _))).mono ?_
  rintro e w1 ⟨rfl, kk⟩
  have gA := heap_block ((Kp.alloc _ _).trans kk) (heap_at w (.cells #[.int .i64 k, .int .i64 pk, .string y, .string m, .string q, .bool a, .bool t, .slice ad l.length cp] 54) w.heap.size rfl)
  have gB := heap_block kk (heap_at (w.alloc (.cells #[.int .i64 k, .int .i64 pk, .string y, .string m, .string q, .bool a, .bool t, .slice ad l.length cp] 54)) (.cells #[.int .i64 k, .int .i64 pk, .string y, .string m, .string q', .bool a', .bool t', .slice ad' l'.length cp'] 54) (w.heap.size + 1) (by simp))
  have K1 := Lib.hid (((Kp.alloc _ _).trans (Kp.alloc _ _)).trans kk)
  have GA := Lib.hid gA
  have GB := Lib.hid gB
  clear kk gA gB
  obtain ⟨x0, x1, x2, x3, x4, x5, x6, x7⟩ := row8 GA.out
  go_wp2_with fail
  refine (F1H.out _ K1.out).mono ?_
  rintro e w2 ⟨rfl, kk⟩
  have K2 := Lib.hid (K1.out.trans kk)
  have GA2 := Lib.hid (heap_block kk GA.out)
  have GB2 := Lib.hid (heap_block kk GB.out)
  clear kk x0 x1 x2 x3 x4 x5 x6 x7 GA GB
  obtain ⟨x0, x1, x2, x3, x4, x5, x6, x7⟩ := row8 GB2.out
  go_wp2_with fail
  refine (F2H.out _ K2.out).mono ?_
  rintro e w3 ⟨rfl, kk⟩
  have K3 := Lib.hid (K2.out.trans kk)
  have GA := Lib.hid (heap_block kk GA2.out)
  have GB := Lib.hid (heap_block kk GB2.out)
  clear kk x0 x1 x2 x3 x4 x5 x6 x7 GA2 GB2
  have z3 : w.heap.size + 1 < w3.heap.size := (Array.getElem?_eq_some_iff.1 GB.out).1
  have n0 : ¬ w.heap.size = w3.heap.size := by omega
  have hq1 : ¬ 9223372036854775807 < q.size + 1 := by have : q.size ≤ 10 := hq; omega
  have n1 : ¬ w.heap.size = w3.heap.size + 1 := by omega
  have n2 : ¬ w.heap.size = w3.heap.size + 1 + 1 := by omega
  have n3 : ¬ w.heap.size = w3.heap.size + 1 + 1 + 1 := by omega
  have l0 : w.heap.size < w3.heap.size := by omega
  have l1 : w.heap.size < w3.heap.size + 1 := by omega
  have l2 : w.heap.size < w3.heap.size + 1 + 1 := by omega
  have l3 : w.heap.size < w3.heap.size + 1 + 1 + 1 := by omega
  obtain ⟨x0, x1, x2, x3, x4, x5, x6, x7⟩ := row8 GA.out
  go_wp2_with fail
  obtain ⟨W4, hW4⟩ : ∃ x, x = (((w3.alloc (.cells #[.int .i64 k, .int .i64 pk, .string y, .string m, .string q, .bool (!a), .bool t, .slice ad l.length cp] 54)).alloc (.cells #[.int .i64 k, .int .i64 pk, .string y, .string m, .string q, .bool a, .bool (!t), .slice ad l.length cp] 54)).alloc (.cells #[.int .i64 (bits .xor .i64 k 1), .int .i64 pk, .string y, .string m, .string q, .bool a, .bool t, .slice ad l.length cp] 54)).alloc (.cells #[.int .i64 k, .int .i64 pk, .string y, .string m, .string (q ++ ⟨#[88]⟩), .bool a, .bool t, .slice ad l.length cp] 54) := ⟨_, rfl⟩
  have kw4 : Kp w3 W4 := by rw [hW4]; exact (Kp.alloc _ _).trans ((Kp.alloc _ _).trans ((Kp.alloc _ _).trans (Kp.alloc _ _)))
  have g7 : W4.heap[w3.heap.size + 1]? = some (.cells #[.int .i64 k, .int .i64 pk, .string y, .string m, .string q, .bool a, .bool (!t), .slice ad l.length cp] 54 (0, 0)) := by rw [hW4]; exact heap_block ((Kp.alloc _ _).trans (Kp.alloc _ _)) (heap_at _ _ _ (by simp))
  have g8 : W4.heap[w3.heap.size + 1 + 1]? = some (.cells #[.int .i64 (bits .xor .i64 k 1), .int .i64 pk, .string y, .string m, .string q, .bool a, .bool t, .slice ad l.length cp] 54 (0, 0)) := by rw [hW4]; exact heap_block (Kp.alloc _ _) (heap_at _ _ _ (by simp))
  have g9 : W4.heap[w3.heap.size + 1 + 1 + 1]? = some (.cells #[.int .i64 k, .int .i64 pk, .string y, .string m, .string (q ++ ⟨#[88]⟩), .bool a, .bool t, .slice ad l.length cp] 54 (0, 0)) := by rw [hW4]; exact heap_at _ _ _ (by simp)
  rw [← hW4]
  have GAx := Lib.hid (heap_block kw4 GA.out)
  have GBx := Lib.hid (heap_block kw4 GB.out)
  have K3x := Lib.hid (K3.out.trans kw4)
  clear GA GB K3 n0 n1 n2 n3 l0 l1 l2 l3 x0 x1 x2 x3 x4 x5 x6 x7 kw4 z3 hW4
  have GA := Lib.hid GAx.out
  have GB := Lib.hid GBx.out
  have K3 := Lib.hid K3x.out
  have G7 := Lib.hid g7
  have G8 := Lib.hid g8
  have G9 := Lib.hid g9
  clear g7 g8 g9 GAx GBx K3x hq1
  refine (H6.out _ K3.out).mono ?_
  rintro e w5 ⟨rfl, kk⟩
  have GAx := Lib.hid (heap_block kk GA.out)
  have GBx := Lib.hid (heap_block kk GB.out)
  have G7x := Lib.hid (heap_block kk G7.out)
  have G8x := Lib.hid (heap_block kk G8.out)
  have G9x := Lib.hid (heap_block kk G9.out)
  have K3x := Lib.hid (K3.out.trans kk)
  clear kk K3 GA GB G7 G8 G9
  have GA := Lib.hid GAx.out
  have GB := Lib.hid GBx.out
  have G7 := Lib.hid G7x.out
  have G8 := Lib.hid G8x.out
  have G9 := Lib.hid G9x.out
  have K3 := Lib.hid K3x.out
  clear K3x GAx GBx G7x G8x G9x
  obtain ⟨x0, x1, x2, x3, x4, x5, x6, x7⟩ := row8 GA.out
  obtain ⟨y0, y1, y2, y3, y4, y5, y6, y7⟩ := row8 G7.out
  go_wp2_with fail
  refine (H7.out _ K3.out).mono ?_
  rintro e w6 ⟨rfl, kk⟩
  clear G7
  clear x0 x1 x2 x3 x4 x5 x6 x7 y0 y1 y2 y3 y4 y5 y6 y7
  have GAx := Lib.hid (heap_block kk GA.out)
  have GBx := Lib.hid (heap_block kk GB.out)
  have G8x := Lib.hid (heap_block kk G8.out)
  have G9x := Lib.hid (heap_block kk G9.out)
  have K3x := Lib.hid (K3.out.trans kk)
  clear kk K3 GA GB G8 G9
  have GA := Lib.hid GAx.out
  have GB := Lib.hid GBx.out
  have G8 := Lib.hid G8x.out
  have G9 := Lib.hid G9x.out
  have K3 := Lib.hid K3x.out
  clear K3x GAx GBx G8x G9x
  obtain ⟨x0, x1, x2, x3, x4, x5, x6, x7⟩ := row8 GA.out
  obtain ⟨y0, y1, y2, y3, y4, y5, y6, y7⟩ := row8 G8.out
  go_wp2_with fail
  refine (H8.out _ K3.out).mono ?_
  rintro e w7 ⟨rfl, kk⟩
  clear G8
  clear x0 x1 x2 x3 x4 x5 x6 x7 y0 y1 y2 y3 y4 y5 y6 y7
  have GAx := Lib.hid (heap_block kk GA.out)
  have GBx := Lib.hid (heap_block kk GB.out)
  have G9x := Lib.hid (heap_block kk G9.out)
  have K3x := Lib.hid (K3.out.trans kk)
  clear kk K3 GA GB G9
  have GA := Lib.hid GAx.out
  have GB := Lib.hid GBx.out
  have G9 := Lib.hid G9x.out
  have K3 := Lib.hid K3x.out
  clear K3x GAx GBx G9x
  obtain ⟨x0, x1, x2, x3, x4, x5, x6, x7⟩ := row8 GA.out
  obtain ⟨y0, y1, y2, y3, y4, y5, y6, y7⟩ := row8 G9.out
  go_wp2_with fail
  refine (H9.out _ K3.out).mono ?_
  rintro e w8 ⟨rfl, kk⟩
  clear G9
  clear x0 x1 x2 x3 x4 x5 x6 x7 y0 y1 y2 y3 y4 y5 y6 y7
  have GAx := Lib.hid (heap_block kk GA.out)
  have GBx := Lib.hid (heap_block kk GB.out)
  have K3x := Lib.hid (K3.out.trans kk)
  clear kk K3 GA GB
  have GA := Lib.hid GAx.out
  have GB := Lib.hid GBx.out
  have K3 := Lib.hid K3x.out
  clear K3x GAx GBx
  obtain ⟨x0, x1, x2, x3, x4, x5, x6, x7⟩ := row8 GA.out
  obtain ⟨y0, y1, y2, y3, y4, y5, y6, y7⟩ := row8 GB.out
  go_wp2
  go_loopw [10, 11] (fun s i ws => s = .bool false ∧ i = .int .i64 0 ∧ Hid (Kp w8 ws)) (fun _ _ _ => 0)
  case atStart => exact ⟨rfl, rfl, Lib.hid (Kp.refl _)⟩
  case round =>
    obtain ⟨rfl, rfl, KL⟩ := hrel
    clear x0 x1 x2 x3 x4 x5 x6 x7 y0 y1 y2 y3 y4 y5 y6 y7
    have kl := KL.out
    have GAx := Lib.hid (heap_block kl GA.out)
    have GBx := Lib.hid (heap_block kl GB.out)
    have K3x := Lib.hid (K3.out.trans kl)
    clear kl GA GB K3
    have GA := Lib.hid GAx.out
    have GB := Lib.hid GBx.out
    have K3 := Lib.hid K3x.out
    clear GAx GBx K3x
    obtain ⟨x0, x1, x2, x3, x4, x5, x6, x7⟩ := row8 GA.out
    obtain ⟨y0, y1, y2, y3, y4, y5, y6, y7⟩ := row8 GB.out
    go_wp2_with fail
    refine (H1.out _ K3.out).mono ?_
    rintro e w9 ⟨rfl, kk⟩
    clear x0 x1 x2 x3 x4 x5 x6 x7 y0 y1 y2 y3 y4 y5 y6 y7
    have GAx := Lib.hid (heap_block kk GA.out)
    have GBx := Lib.hid (heap_block kk GB.out)
    have K3x := Lib.hid (K3.out.trans kk)
    clear kk K3 GA GB
    have GA := Lib.hid GAx.out
    have GB := Lib.hid GBx.out
    have K3 := Lib.hid K3x.out
    clear K3x GAx GBx
    obtain ⟨x0, x1, x2, x3, x4, x5, x6, x7⟩ := row8 GA.out
    obtain ⟨y0, y1, y2, y3, y4, y5, y6, y7⟩ := row8 GB.out
    go_wp2_with fail
    refine (H2.out _ K3.out).mono ?_
    rintro e w10 ⟨rfl, kk⟩
    have KF := Lib.hid (K3.out.trans kk)
    clear kk
    go_wp2
    go_ret
    exact ⟨rfl, KF.out⟩
set_option maxHeartbeats 16000000 in
set_option maxRecDepth 100000 in
theorem treeSame_yes5 (k pk : Int) (y m q : ByteArray) (a t : Bool) (l : List ND) (ad : Option Addr) (cp : Nat) (a' t' : Bool) (l' : List ND) (ad' : Option Addr) (cp' : Nat) (w : World) (hu : NodesAt w (.slice ad l.length cp) l) (hv : NodesAt w (.slice ad' l'.length cp') l') (bn : cntL l ≤ 2000000) (bm : cntL l' ≤ 2000000) (gk : -9223372036854775808 ≤ k ∧ k ≤ 9223372036854775807) (T : TabSH w) (hf : fewN (.mk k ⟨pk, y, m, q⟩ a t l : ND) = true) (hg : fewN (.mk k ⟨pk, y, m, q⟩ a' t' l' : ND) = true) (hk : a ≠ a') : Calls Tryd.prog 11 #[.agg #[.int .i64 k, .int .i64 pk, .string y, .string m, .string q, .bool a, .bool t, .slice ad l.length cp], .agg #[.int .i64 k, .int .i64 pk, .string y, .string m, .string q, .bool a', .bool t', .slice ad' l'.length cp']] w fun e w' => e = .returned (.bool true) ∧ Kp w w' := by
  have AW := Lib.hid (fun w1 (qq : Kp w w1) => awake10 w1 (T.kp qq))
  have F1 : ∀ w1, Kp w w1 → Calls Tryd.prog 36 #[.agg #[.int .i64 k, .int .i64 pk, .string y, .string m, .string q, .bool a, .bool t, .slice ad l.length cp]] w1 fun e w' => e = .returned (.bool (fewN (.mk k ⟨pk, y, m, q⟩ a t l : ND))) ∧ Kp w1 w' := fun w1 qq => rfewN_any (.mk k ⟨pk, y, m, q⟩ a t l : ND) (.slice ad l.length cp) w1 (hu.kp qq) bn
  have F2 : ∀ w1, Kp w w1 → Calls Tryd.prog 36 #[.agg #[.int .i64 k, .int .i64 pk, .string y, .string m, .string q, .bool a', .bool t', .slice ad' l'.length cp']] w1 fun e w' => e = .returned (.bool (fewN (.mk k ⟨pk, y, m, q⟩ a' t' l' : ND))) ∧ Kp w1 w' := fun w1 qq => rfewN_any (.mk k ⟨pk, y, m, q⟩ a' t' l' : ND) (.slice ad' l'.length cp') w1 (hv.kp qq) bm
  rw [hf] at F1
  rw [hg] at F2
  have F1H := Lib.hid F1
  have F2H := Lib.hid F2
  have cn := few_cnt hf
  have cm := few_cnt hg
  have hq := few_short hf
  have S6 : ∀ w1, Kp w w1 → Calls Tryd.prog 45 #[.agg #[.int .i64 k, .int .i64 pk, .string y, .string m, .string q, .bool (!a), .bool t, .slice ad l.length cp], .agg #[.int .i64 k, .int .i64 pk, .string y, .string m, .string q, .bool a, .bool t, .slice ad l.length cp]] w1 fun e w' => e = .returned (.bool false) ∧ Kp w1 w' := fun w1 qq => by
    have this := tSame_any (.mk k ⟨pk, y, m, q⟩ (!a) t l : ND) (.mk k ⟨pk, y, m, q⟩ a t l : ND) (.slice ad l.length cp) (.slice ad l.length cp) w1 (hu.kp qq) (hu.kp qq) cn
    rw [same_no (by intro h; simp at h)] at this
    exact this
  have H6 := Lib.hid S6
  clear S6
  have S7 : ∀ w1, Kp w w1 → Calls Tryd.prog 45 #[.agg #[.int .i64 k, .int .i64 pk, .string y, .string m, .string q, .bool a, .bool t, .slice ad l.length cp], .agg #[.int .i64 k, .int .i64 pk, .string y, .string m, .string q, .bool a, .bool (!t), .slice ad l.length cp]] w1 fun e w' => e = .returned (.bool false) ∧ Kp w1 w' := fun w1 qq => by
    have this := tSame_any (.mk k ⟨pk, y, m, q⟩ a t l : ND) (.mk k ⟨pk, y, m, q⟩ a (!t) l : ND) (.slice ad l.length cp) (.slice ad l.length cp) w1 (hu.kp qq) (hu.kp qq) cn
    rw [same_no (by intro h; simp at h)] at this
    exact this
  have H7 := Lib.hid S7
  clear S7
  have S8 : ∀ w1, Kp w w1 → Calls Tryd.prog 45 #[.agg #[.int .i64 (bits .xor .i64 k 1), .int .i64 pk, .string y, .string m, .string q, .bool a, .bool t, .slice ad l.length cp], .agg #[.int .i64 k, .int .i64 pk, .string y, .string m, .string q, .bool a, .bool t, .slice ad l.length cp]] w1 fun e w' => e = .returned (.bool false) ∧ Kp w1 w' := fun w1 qq => by
    have this := tSame_any (.mk (bits .xor .i64 k 1) ⟨pk, y, m, q⟩ a t l : ND) (.mk k ⟨pk, y, m, q⟩ a t l : ND) (.slice ad l.length cp) (.slice ad l.length cp) w1 (hu.kp qq) (hu.kp qq) cn
    rw [same_no (by intro h; simp only [ND.mk.injEq] at h; exact xor_ne k h.1)] at this
    exact this
  have H8 := Lib.hid S8
  clear S8
  have S9 : ∀ w1, Kp w w1 → Calls Tryd.prog 45 #[.agg #[.int .i64 k, .int .i64 pk, .string y, .string m, .string q, .bool a, .bool t, .slice ad l.length cp], .agg #[.int .i64 k, .int .i64 pk, .string y, .string m, .string (q ++ ⟨#[88]⟩), .bool a, .bool t, .slice ad l.length cp]] w1 fun e w' => e = .returned (.bool false) ∧ Kp w1 w' := fun w1 qq => by
    have this := tSame_any (.mk k ⟨pk, y, m, q⟩ a t l : ND) (.mk k ⟨pk, y, m, (q ++ ⟨#[88]⟩)⟩ a t l : ND) (.slice ad l.length cp) (.slice ad l.length cp) w1 (hu.kp qq) (hu.kp qq) cn
    rw [same_no (by intro h; simp only [ND.mk.injEq, PT.mk.injEq] at h; exact app_ne q h.2.1.2.2.2.symm)] at this
    exact this
  have H9 := Lib.hid S9
  clear S9
  have HN : (.mk k ⟨pk, y, m, q⟩ a t l : ND) ≠ (.mk k ⟨pk, y, m, q⟩ a' t' l' : ND) := by
    intro h
    simp only [ND.mk.injEq, PT.mk.injEq] at h
    exact hk (by simp [h])
  have S1 : ∀ w1, Kp w w1 → Calls Tryd.prog 45 #[.agg #[.int .i64 k, .int .i64 pk, .string y, .string m, .string q, .bool a, .bool t, .slice ad l.length cp], .agg #[.int .i64 k, .int .i64 pk, .string y, .string m, .string q, .bool a', .bool t', .slice ad' l'.length cp']] w1 fun e w' => e = .returned (.bool false) ∧ Kp w1 w' := fun w1 qq => by
    have this := tSame_any (.mk k ⟨pk, y, m, q⟩ a t l : ND) (.mk k ⟨pk, y, m, q⟩ a' t' l' : ND) (.slice ad l.length cp) (.slice ad' l'.length cp') w1 (hu.kp qq) (hv.kp qq) cn
    rw [same_no HN] at this
    exact this
  have H1 := Lib.hid S1
  clear S1
  have S2 : ∀ w1, Kp w w1 → Calls Tryd.prog 45 #[.agg #[.int .i64 k, .int .i64 pk, .string y, .string m, .string q, .bool a', .bool t', .slice ad' l'.length cp'], .agg #[.int .i64 k, .int .i64 pk, .string y, .string m, .string q, .bool a, .bool t, .slice ad l.length cp]] w1 fun e w' => e = .returned (.bool false) ∧ Kp w1 w' := fun w1 qq => by
    have this := tSame_any (.mk k ⟨pk, y, m, q⟩ a' t' l' : ND) (.mk k ⟨pk, y, m, q⟩ a t l : ND) (.slice ad' l'.length cp') (.slice ad l.length cp) w1 (hv.kp qq) (hu.kp qq) cm
    rw [same_no (fun h => HN h.symm)] at this
    exact this
  have H2 := Lib.hid S2
  clear S2
  have HU := Lib.hid hu
  have HV := Lib.hid hv
  have HCN := Lib.hid cn
  have HCM := Lib.hid cm
  have e1 : (a == a') = false := beq_eq_false_iff_ne.2 hk
  clear hk HN
  clear F1 F2 hu hv T hf hg bn bm cn cm
  go_enter Tryd.func11, Tryd.ntmps11
  go_wp2_with fail
  refine (AW.out _ ((Kp.alloc _ _).trans (Kp.alloc _ _))).mono ?_
  rintro e w1 ⟨rfl, kk⟩
  have gA := heap_block ((Kp.alloc _ _).trans kk) (heap_at w (.cells #[.int .i64 k, .int .i64 pk, .string y, .string m, .string q, .bool a, .bool t, .slice ad l.length cp] 54) w.heap.size rfl)
  have gB := heap_block kk (heap_at (w.alloc (.cells #[.int .i64 k, .int .i64 pk, .string y, .string m, .string q, .bool a, .bool t, .slice ad l.length cp] 54)) (.cells #[.int .i64 k, .int .i64 pk, .string y, .string m, .string q, .bool a', .bool t', .slice ad' l'.length cp'] 54) (w.heap.size + 1) (by simp))
  have K1 := Lib.hid (((Kp.alloc _ _).trans (Kp.alloc _ _)).trans kk)
  have GA := Lib.hid gA
  have GB := Lib.hid gB
  clear kk gA gB
  obtain ⟨x0, x1, x2, x3, x4, x5, x6, x7⟩ := row8 GA.out
  go_wp2_with fail
  refine (F1H.out _ K1.out).mono ?_
  rintro e w2 ⟨rfl, kk⟩
  have K2 := Lib.hid (K1.out.trans kk)
  have GA2 := Lib.hid (heap_block kk GA.out)
  have GB2 := Lib.hid (heap_block kk GB.out)
  clear kk x0 x1 x2 x3 x4 x5 x6 x7 GA GB
  obtain ⟨x0, x1, x2, x3, x4, x5, x6, x7⟩ := row8 GB2.out
  go_wp2_with fail
  refine (F2H.out _ K2.out).mono ?_
  rintro e w3 ⟨rfl, kk⟩
  have K3 := Lib.hid (K2.out.trans kk)
  have GA := Lib.hid (heap_block kk GA2.out)
  have GB := Lib.hid (heap_block kk GB2.out)
  clear kk x0 x1 x2 x3 x4 x5 x6 x7 GA2 GB2
  have z3 : w.heap.size + 1 < w3.heap.size := (Array.getElem?_eq_some_iff.1 GB.out).1
  have n0 : ¬ w.heap.size = w3.heap.size := by omega
  have hq1 : ¬ 9223372036854775807 < q.size + 1 := by have : q.size ≤ 10 := hq; omega
  have n1 : ¬ w.heap.size = w3.heap.size + 1 := by omega
  have n2 : ¬ w.heap.size = w3.heap.size + 1 + 1 := by omega
  have n3 : ¬ w.heap.size = w3.heap.size + 1 + 1 + 1 := by omega
  have l0 : w.heap.size < w3.heap.size := by omega
  have l1 : w.heap.size < w3.heap.size + 1 := by omega
  have l2 : w.heap.size < w3.heap.size + 1 + 1 := by omega
  have l3 : w.heap.size < w3.heap.size + 1 + 1 + 1 := by omega
  obtain ⟨x0, x1, x2, x3, x4, x5, x6, x7⟩ := row8 GA.out
  go_wp2_with fail
  obtain ⟨W4, hW4⟩ : ∃ x, x = (((w3.alloc (.cells #[.int .i64 k, .int .i64 pk, .string y, .string m, .string q, .bool (!a), .bool t, .slice ad l.length cp] 54)).alloc (.cells #[.int .i64 k, .int .i64 pk, .string y, .string m, .string q, .bool a, .bool (!t), .slice ad l.length cp] 54)).alloc (.cells #[.int .i64 (bits .xor .i64 k 1), .int .i64 pk, .string y, .string m, .string q, .bool a, .bool t, .slice ad l.length cp] 54)).alloc (.cells #[.int .i64 k, .int .i64 pk, .string y, .string m, .string (q ++ ⟨#[88]⟩), .bool a, .bool t, .slice ad l.length cp] 54) := ⟨_, rfl⟩
  have kw4 : Kp w3 W4 := by rw [hW4]; exact (Kp.alloc _ _).trans ((Kp.alloc _ _).trans ((Kp.alloc _ _).trans (Kp.alloc _ _)))
  have g7 : W4.heap[w3.heap.size + 1]? = some (.cells #[.int .i64 k, .int .i64 pk, .string y, .string m, .string q, .bool a, .bool (!t), .slice ad l.length cp] 54 (0, 0)) := by rw [hW4]; exact heap_block ((Kp.alloc _ _).trans (Kp.alloc _ _)) (heap_at _ _ _ (by simp))
  have g8 : W4.heap[w3.heap.size + 1 + 1]? = some (.cells #[.int .i64 (bits .xor .i64 k 1), .int .i64 pk, .string y, .string m, .string q, .bool a, .bool t, .slice ad l.length cp] 54 (0, 0)) := by rw [hW4]; exact heap_block (Kp.alloc _ _) (heap_at _ _ _ (by simp))
  have g9 : W4.heap[w3.heap.size + 1 + 1 + 1]? = some (.cells #[.int .i64 k, .int .i64 pk, .string y, .string m, .string (q ++ ⟨#[88]⟩), .bool a, .bool t, .slice ad l.length cp] 54 (0, 0)) := by rw [hW4]; exact heap_at _ _ _ (by simp)
  rw [← hW4]
  have GAx := Lib.hid (heap_block kw4 GA.out)
  have GBx := Lib.hid (heap_block kw4 GB.out)
  have K3x := Lib.hid (K3.out.trans kw4)
  clear GA GB K3 n0 n1 n2 n3 l0 l1 l2 l3 x0 x1 x2 x3 x4 x5 x6 x7 kw4 z3 hW4
  have GA := Lib.hid GAx.out
  have GB := Lib.hid GBx.out
  have K3 := Lib.hid K3x.out
  have G7 := Lib.hid g7
  have G8 := Lib.hid g8
  have G9 := Lib.hid g9
  clear g7 g8 g9 GAx GBx K3x hq1
  refine (H6.out _ K3.out).mono ?_
  rintro e w5 ⟨rfl, kk⟩
  have GAx := Lib.hid (heap_block kk GA.out)
  have GBx := Lib.hid (heap_block kk GB.out)
  have G7x := Lib.hid (heap_block kk G7.out)
  have G8x := Lib.hid (heap_block kk G8.out)
  have G9x := Lib.hid (heap_block kk G9.out)
  have K3x := Lib.hid (K3.out.trans kk)
  clear kk K3 GA GB G7 G8 G9
  have GA := Lib.hid GAx.out
  have GB := Lib.hid GBx.out
  have G7 := Lib.hid G7x.out
  have G8 := Lib.hid G8x.out
  have G9 := Lib.hid G9x.out
  have K3 := Lib.hid K3x.out
  clear K3x GAx GBx G7x G8x G9x
  obtain ⟨x0, x1, x2, x3, x4, x5, x6, x7⟩ := row8 GA.out
  obtain ⟨y0, y1, y2, y3, y4, y5, y6, y7⟩ := row8 G7.out
  go_wp2_with fail
  refine (H7.out _ K3.out).mono ?_
  rintro e w6 ⟨rfl, kk⟩
  clear G7
  clear x0 x1 x2 x3 x4 x5 x6 x7 y0 y1 y2 y3 y4 y5 y6 y7
  have GAx := Lib.hid (heap_block kk GA.out)
  have GBx := Lib.hid (heap_block kk GB.out)
  have G8x := Lib.hid (heap_block kk G8.out)
  have G9x := Lib.hid (heap_block kk G9.out)
  have K3x := Lib.hid (K3.out.trans kk)
  clear kk K3 GA GB G8 G9
  have GA := Lib.hid GAx.out
  have GB := Lib.hid GBx.out
  have G8 := Lib.hid G8x.out
  have G9 := Lib.hid G9x.out
  have K3 := Lib.hid K3x.out
  clear K3x GAx GBx G8x G9x
  obtain ⟨x0, x1, x2, x3, x4, x5, x6, x7⟩ := row8 GA.out
  obtain ⟨y0, y1, y2, y3, y4, y5, y6, y7⟩ := row8 G8.out
  go_wp2_with fail
  refine (H8.out _ K3.out).mono ?_
  rintro e w7 ⟨rfl, kk⟩
  clear G8
  clear x0 x1 x2 x3 x4 x5 x6 x7 y0 y1 y2 y3 y4 y5 y6 y7
  have GAx := Lib.hid (heap_block kk GA.out)
  have GBx := Lib.hid (heap_block kk GB.out)
  have G9x := Lib.hid (heap_block kk G9.out)
  have K3x := Lib.hid (K3.out.trans kk)
  clear kk K3 GA GB G9
  have GA := Lib.hid GAx.out
  have GB := Lib.hid GBx.out
  have G9 := Lib.hid G9x.out
  have K3 := Lib.hid K3x.out
  clear K3x GAx GBx G9x
  obtain ⟨x0, x1, x2, x3, x4, x5, x6, x7⟩ := row8 GA.out
  obtain ⟨y0, y1, y2, y3, y4, y5, y6, y7⟩ := row8 G9.out
  go_wp2_with fail
  refine (H9.out _ K3.out).mono ?_
  rintro e w8 ⟨rfl, kk⟩
  clear G9
  clear x0 x1 x2 x3 x4 x5 x6 x7 y0 y1 y2 y3 y4 y5 y6 y7
  have GAx := Lib.hid (heap_block kk GA.out)
  have GBx := Lib.hid (heap_block kk GB.out)
  have K3x := Lib.hid (K3.out.trans kk)
  clear kk K3 GA GB
  have GA := Lib.hid GAx.out
  have GB := Lib.hid GBx.out
  have K3 := Lib.hid K3x.out
  clear K3x GAx GBx
  obtain ⟨x0, x1, x2, x3, x4, x5, x6, x7⟩ := row8 GA.out
  obtain ⟨y0, y1, y2, y3, y4, y5, y6, y7⟩ := row8 GB.out
  go_wp2
  go_loopw [10, 11] (fun s i ws => s = .bool false ∧ i = .int .i64 0 ∧ Hid (Kp w8 ws)) (fun _ _ _ => 0)
  case atStart => exact ⟨rfl, rfl, Lib.hid (Kp.refl _)⟩
  case round =>
    obtain ⟨rfl, rfl, KL⟩ := hrel
    clear x0 x1 x2 x3 x4 x5 x6 x7 y0 y1 y2 y3 y4 y5 y6 y7
    have kl := KL.out
    have GAx := Lib.hid (heap_block kl GA.out)
    have GBx := Lib.hid (heap_block kl GB.out)
    have K3x := Lib.hid (K3.out.trans kl)
    clear kl GA GB K3
    have GA := Lib.hid GAx.out
    have GB := Lib.hid GBx.out
    have K3 := Lib.hid K3x.out
    clear GAx GBx K3x
    obtain ⟨x0, x1, x2, x3, x4, x5, x6, x7⟩ := row8 GA.out
    obtain ⟨y0, y1, y2, y3, y4, y5, y6, y7⟩ := row8 GB.out
    go_wp2_with fail
    refine (H1.out _ K3.out).mono ?_
    rintro e w9 ⟨rfl, kk⟩
    clear x0 x1 x2 x3 x4 x5 x6 x7 y0 y1 y2 y3 y4 y5 y6 y7
    have GAx := Lib.hid (heap_block kk GA.out)
    have GBx := Lib.hid (heap_block kk GB.out)
    have K3x := Lib.hid (K3.out.trans kk)
    clear kk K3 GA GB
    have GA := Lib.hid GAx.out
    have GB := Lib.hid GBx.out
    have K3 := Lib.hid K3x.out
    clear K3x GAx GBx
    obtain ⟨x0, x1, x2, x3, x4, x5, x6, x7⟩ := row8 GA.out
    obtain ⟨y0, y1, y2, y3, y4, y5, y6, y7⟩ := row8 GB.out
    go_wp2_with fail
    refine (H2.out _ K3.out).mono ?_
    rintro e w10 ⟨rfl, kk⟩
    have KF := Lib.hid (K3.out.trans kk)
    clear kk
    go_wp2
    go_ret
    exact ⟨rfl, KF.out⟩
set_option maxHeartbeats 16000000 in
set_option maxRecDepth 100000 in
theorem treeSame_yes6 (k pk : Int) (y m q : ByteArray) (a t : Bool) (l : List ND) (ad : Option Addr) (cp : Nat) (t' : Bool) (l' : List ND) (ad' : Option Addr) (cp' : Nat) (w : World) (hu : NodesAt w (.slice ad l.length cp) l) (hv : NodesAt w (.slice ad' l'.length cp') l') (bn : cntL l ≤ 2000000) (bm : cntL l' ≤ 2000000) (gk : -9223372036854775808 ≤ k ∧ k ≤ 9223372036854775807) (T : TabSH w) (hf : fewN (.mk k ⟨pk, y, m, q⟩ a t l : ND) = true) (hg : fewN (.mk k ⟨pk, y, m, q⟩ a t' l' : ND) = true) (hk : t ≠ t') : Calls Tryd.prog 11 #[.agg #[.int .i64 k, .int .i64 pk, .string y, .string m, .string q, .bool a, .bool t, .slice ad l.length cp], .agg #[.int .i64 k, .int .i64 pk, .string y, .string m, .string q, .bool a, .bool t', .slice ad' l'.length cp']] w fun e w' => e = .returned (.bool true) ∧ Kp w w' := by
  have AW := Lib.hid (fun w1 (qq : Kp w w1) => awake10 w1 (T.kp qq))
  have F1 : ∀ w1, Kp w w1 → Calls Tryd.prog 36 #[.agg #[.int .i64 k, .int .i64 pk, .string y, .string m, .string q, .bool a, .bool t, .slice ad l.length cp]] w1 fun e w' => e = .returned (.bool (fewN (.mk k ⟨pk, y, m, q⟩ a t l : ND))) ∧ Kp w1 w' := fun w1 qq => rfewN_any (.mk k ⟨pk, y, m, q⟩ a t l : ND) (.slice ad l.length cp) w1 (hu.kp qq) bn
  have F2 : ∀ w1, Kp w w1 → Calls Tryd.prog 36 #[.agg #[.int .i64 k, .int .i64 pk, .string y, .string m, .string q, .bool a, .bool t', .slice ad' l'.length cp']] w1 fun e w' => e = .returned (.bool (fewN (.mk k ⟨pk, y, m, q⟩ a t' l' : ND))) ∧ Kp w1 w' := fun w1 qq => rfewN_any (.mk k ⟨pk, y, m, q⟩ a t' l' : ND) (.slice ad' l'.length cp') w1 (hv.kp qq) bm
  rw [hf] at F1
  rw [hg] at F2
  have F1H := Lib.hid F1
  have F2H := Lib.hid F2
  have cn := few_cnt hf
  have cm := few_cnt hg
  have hq := few_short hf
  have S6 : ∀ w1, Kp w w1 → Calls Tryd.prog 45 #[.agg #[.int .i64 k, .int .i64 pk, .string y, .string m, .string q, .bool (!a), .bool t, .slice ad l.length cp], .agg #[.int .i64 k, .int .i64 pk, .string y, .string m, .string q, .bool a, .bool t, .slice ad l.length cp]] w1 fun e w' => e = .returned (.bool false) ∧ Kp w1 w' := fun w1 qq => by
    have this := tSame_any (.mk k ⟨pk, y, m, q⟩ (!a) t l : ND) (.mk k ⟨pk, y, m, q⟩ a t l : ND) (.slice ad l.length cp) (.slice ad l.length cp) w1 (hu.kp qq) (hu.kp qq) cn
    rw [same_no (by intro h; simp at h)] at this
    exact this
  have H6 := Lib.hid S6
  clear S6
  have S7 : ∀ w1, Kp w w1 → Calls Tryd.prog 45 #[.agg #[.int .i64 k, .int .i64 pk, .string y, .string m, .string q, .bool a, .bool t, .slice ad l.length cp], .agg #[.int .i64 k, .int .i64 pk, .string y, .string m, .string q, .bool a, .bool (!t), .slice ad l.length cp]] w1 fun e w' => e = .returned (.bool false) ∧ Kp w1 w' := fun w1 qq => by
    have this := tSame_any (.mk k ⟨pk, y, m, q⟩ a t l : ND) (.mk k ⟨pk, y, m, q⟩ a (!t) l : ND) (.slice ad l.length cp) (.slice ad l.length cp) w1 (hu.kp qq) (hu.kp qq) cn
    rw [same_no (by intro h; simp at h)] at this
    exact this
  have H7 := Lib.hid S7
  clear S7
  have S8 : ∀ w1, Kp w w1 → Calls Tryd.prog 45 #[.agg #[.int .i64 (bits .xor .i64 k 1), .int .i64 pk, .string y, .string m, .string q, .bool a, .bool t, .slice ad l.length cp], .agg #[.int .i64 k, .int .i64 pk, .string y, .string m, .string q, .bool a, .bool t, .slice ad l.length cp]] w1 fun e w' => e = .returned (.bool false) ∧ Kp w1 w' := fun w1 qq => by
    have this := tSame_any (.mk (bits .xor .i64 k 1) ⟨pk, y, m, q⟩ a t l : ND) (.mk k ⟨pk, y, m, q⟩ a t l : ND) (.slice ad l.length cp) (.slice ad l.length cp) w1 (hu.kp qq) (hu.kp qq) cn
    rw [same_no (by intro h; simp only [ND.mk.injEq] at h; exact xor_ne k h.1)] at this
    exact this
  have H8 := Lib.hid S8
  clear S8
  have S9 : ∀ w1, Kp w w1 → Calls Tryd.prog 45 #[.agg #[.int .i64 k, .int .i64 pk, .string y, .string m, .string q, .bool a, .bool t, .slice ad l.length cp], .agg #[.int .i64 k, .int .i64 pk, .string y, .string m, .string (q ++ ⟨#[88]⟩), .bool a, .bool t, .slice ad l.length cp]] w1 fun e w' => e = .returned (.bool false) ∧ Kp w1 w' := fun w1 qq => by
    have this := tSame_any (.mk k ⟨pk, y, m, q⟩ a t l : ND) (.mk k ⟨pk, y, m, (q ++ ⟨#[88]⟩)⟩ a t l : ND) (.slice ad l.length cp) (.slice ad l.length cp) w1 (hu.kp qq) (hu.kp qq) cn
    rw [same_no (by intro h; simp only [ND.mk.injEq, PT.mk.injEq] at h; exact app_ne q h.2.1.2.2.2.symm)] at this
    exact this
  have H9 := Lib.hid S9
  clear S9
  have HN : (.mk k ⟨pk, y, m, q⟩ a t l : ND) ≠ (.mk k ⟨pk, y, m, q⟩ a t' l' : ND) := by
    intro h
    simp only [ND.mk.injEq, PT.mk.injEq] at h
    exact hk (by simp [h])
  have S1 : ∀ w1, Kp w w1 → Calls Tryd.prog 45 #[.agg #[.int .i64 k, .int .i64 pk, .string y, .string m, .string q, .bool a, .bool t, .slice ad l.length cp], .agg #[.int .i64 k, .int .i64 pk, .string y, .string m, .string q, .bool a, .bool t', .slice ad' l'.length cp']] w1 fun e w' => e = .returned (.bool false) ∧ Kp w1 w' := fun w1 qq => by
    have this := tSame_any (.mk k ⟨pk, y, m, q⟩ a t l : ND) (.mk k ⟨pk, y, m, q⟩ a t' l' : ND) (.slice ad l.length cp) (.slice ad' l'.length cp') w1 (hu.kp qq) (hv.kp qq) cn
    rw [same_no HN] at this
    exact this
  have H1 := Lib.hid S1
  clear S1
  have S2 : ∀ w1, Kp w w1 → Calls Tryd.prog 45 #[.agg #[.int .i64 k, .int .i64 pk, .string y, .string m, .string q, .bool a, .bool t', .slice ad' l'.length cp'], .agg #[.int .i64 k, .int .i64 pk, .string y, .string m, .string q, .bool a, .bool t, .slice ad l.length cp]] w1 fun e w' => e = .returned (.bool false) ∧ Kp w1 w' := fun w1 qq => by
    have this := tSame_any (.mk k ⟨pk, y, m, q⟩ a t' l' : ND) (.mk k ⟨pk, y, m, q⟩ a t l : ND) (.slice ad' l'.length cp') (.slice ad l.length cp) w1 (hv.kp qq) (hu.kp qq) cm
    rw [same_no (fun h => HN h.symm)] at this
    exact this
  have H2 := Lib.hid S2
  clear S2
  have HU := Lib.hid hu
  have HV := Lib.hid hv
  have HCN := Lib.hid cn
  have HCM := Lib.hid cm
  have e1 : (t == t') = false := beq_eq_false_iff_ne.2 hk
  clear hk HN
  clear F1 F2 hu hv T hf hg bn bm cn cm
  go_enter Tryd.func11, Tryd.ntmps11
  go_wp2_with fail
  refine (AW.out _ ((Kp.alloc _ _).trans (Kp.alloc _ _))).mono ?_
  rintro e w1 ⟨rfl, kk⟩
  have gA := heap_block ((Kp.alloc _ _).trans kk) (heap_at w (.cells #[.int .i64 k, .int .i64 pk, .string y, .string m, .string q, .bool a, .bool t, .slice ad l.length cp] 54) w.heap.size rfl)
  have gB := heap_block kk (heap_at (w.alloc (.cells #[.int .i64 k, .int .i64 pk, .string y, .string m, .string q, .bool a, .bool t, .slice ad l.length cp] 54)) (.cells #[.int .i64 k, .int .i64 pk, .string y, .string m, .string q, .bool a, .bool t', .slice ad' l'.length cp'] 54) (w.heap.size + 1) (by simp))
  have K1 := Lib.hid (((Kp.alloc _ _).trans (Kp.alloc _ _)).trans kk)
  have GA := Lib.hid gA
  have GB := Lib.hid gB
  clear kk gA gB
  obtain ⟨x0, x1, x2, x3, x4, x5, x6, x7⟩ := row8 GA.out
  go_wp2_with fail
  refine (F1H.out _ K1.out).mono ?_
  rintro e w2 ⟨rfl, kk⟩
  have K2 := Lib.hid (K1.out.trans kk)
  have GA2 := Lib.hid (heap_block kk GA.out)
  have GB2 := Lib.hid (heap_block kk GB.out)
  clear kk x0 x1 x2 x3 x4 x5 x6 x7 GA GB
  obtain ⟨x0, x1, x2, x3, x4, x5, x6, x7⟩ := row8 GB2.out
  go_wp2_with fail
  refine (F2H.out _ K2.out).mono ?_
  rintro e w3 ⟨rfl, kk⟩
  have K3 := Lib.hid (K2.out.trans kk)
  have GA := Lib.hid (heap_block kk GA2.out)
  have GB := Lib.hid (heap_block kk GB2.out)
  clear kk x0 x1 x2 x3 x4 x5 x6 x7 GA2 GB2
  have z3 : w.heap.size + 1 < w3.heap.size := (Array.getElem?_eq_some_iff.1 GB.out).1
  have n0 : ¬ w.heap.size = w3.heap.size := by omega
  have hq1 : ¬ 9223372036854775807 < q.size + 1 := by have : q.size ≤ 10 := hq; omega
  have n1 : ¬ w.heap.size = w3.heap.size + 1 := by omega
  have n2 : ¬ w.heap.size = w3.heap.size + 1 + 1 := by omega
  have n3 : ¬ w.heap.size = w3.heap.size + 1 + 1 + 1 := by omega
  have l0 : w.heap.size < w3.heap.size := by omega
  have l1 : w.heap.size < w3.heap.size + 1 := by omega
  have l2 : w.heap.size < w3.heap.size + 1 + 1 := by omega
  have l3 : w.heap.size < w3.heap.size + 1 + 1 + 1 := by omega
  obtain ⟨x0, x1, x2, x3, x4, x5, x6, x7⟩ := row8 GA.out
  go_wp2_with fail
  obtain ⟨W4, hW4⟩ : ∃ x, x = (((w3.alloc (.cells #[.int .i64 k, .int .i64 pk, .string y, .string m, .string q, .bool (!a), .bool t, .slice ad l.length cp] 54)).alloc (.cells #[.int .i64 k, .int .i64 pk, .string y, .string m, .string q, .bool a, .bool (!t), .slice ad l.length cp] 54)).alloc (.cells #[.int .i64 (bits .xor .i64 k 1), .int .i64 pk, .string y, .string m, .string q, .bool a, .bool t, .slice ad l.length cp] 54)).alloc (.cells #[.int .i64 k, .int .i64 pk, .string y, .string m, .string (q ++ ⟨#[88]⟩), .bool a, .bool t, .slice ad l.length cp] 54) := ⟨_, rfl⟩
  have kw4 : Kp w3 W4 := by rw [hW4]; exact (Kp.alloc _ _).trans ((Kp.alloc _ _).trans ((Kp.alloc _ _).trans (Kp.alloc _ _)))
  have g7 : W4.heap[w3.heap.size + 1]? = some (.cells #[.int .i64 k, .int .i64 pk, .string y, .string m, .string q, .bool a, .bool (!t), .slice ad l.length cp] 54 (0, 0)) := by rw [hW4]; exact heap_block ((Kp.alloc _ _).trans (Kp.alloc _ _)) (heap_at _ _ _ (by simp))
  have g8 : W4.heap[w3.heap.size + 1 + 1]? = some (.cells #[.int .i64 (bits .xor .i64 k 1), .int .i64 pk, .string y, .string m, .string q, .bool a, .bool t, .slice ad l.length cp] 54 (0, 0)) := by rw [hW4]; exact heap_block (Kp.alloc _ _) (heap_at _ _ _ (by simp))
  have g9 : W4.heap[w3.heap.size + 1 + 1 + 1]? = some (.cells #[.int .i64 k, .int .i64 pk, .string y, .string m, .string (q ++ ⟨#[88]⟩), .bool a, .bool t, .slice ad l.length cp] 54 (0, 0)) := by rw [hW4]; exact heap_at _ _ _ (by simp)
  rw [← hW4]
  have GAx := Lib.hid (heap_block kw4 GA.out)
  have GBx := Lib.hid (heap_block kw4 GB.out)
  have K3x := Lib.hid (K3.out.trans kw4)
  clear GA GB K3 n0 n1 n2 n3 l0 l1 l2 l3 x0 x1 x2 x3 x4 x5 x6 x7 kw4 z3 hW4
  have GA := Lib.hid GAx.out
  have GB := Lib.hid GBx.out
  have K3 := Lib.hid K3x.out
  have G7 := Lib.hid g7
  have G8 := Lib.hid g8
  have G9 := Lib.hid g9
  clear g7 g8 g9 GAx GBx K3x hq1
  refine (H6.out _ K3.out).mono ?_
  rintro e w5 ⟨rfl, kk⟩
  have GAx := Lib.hid (heap_block kk GA.out)
  have GBx := Lib.hid (heap_block kk GB.out)
  have G7x := Lib.hid (heap_block kk G7.out)
  have G8x := Lib.hid (heap_block kk G8.out)
  have G9x := Lib.hid (heap_block kk G9.out)
  have K3x := Lib.hid (K3.out.trans kk)
  clear kk K3 GA GB G7 G8 G9
  have GA := Lib.hid GAx.out
  have GB := Lib.hid GBx.out
  have G7 := Lib.hid G7x.out
  have G8 := Lib.hid G8x.out
  have G9 := Lib.hid G9x.out
  have K3 := Lib.hid K3x.out
  clear K3x GAx GBx G7x G8x G9x
  obtain ⟨x0, x1, x2, x3, x4, x5, x6, x7⟩ := row8 GA.out
  obtain ⟨y0, y1, y2, y3, y4, y5, y6, y7⟩ := row8 G7.out
  go_wp2_with fail
  refine (H7.out _ K3.out).mono ?_
  rintro e w6 ⟨rfl, kk⟩
  clear G7
  clear x0 x1 x2 x3 x4 x5 x6 x7 y0 y1 y2 y3 y4 y5 y6 y7
  have GAx := Lib.hid (heap_block kk GA.out)
  have GBx := Lib.hid (heap_block kk GB.out)
  have G8x := Lib.hid (heap_block kk G8.out)
  have G9x := Lib.hid (heap_block kk G9.out)
  have K3x := Lib.hid (K3.out.trans kk)
  clear kk K3 GA GB G8 G9
  have GA := Lib.hid GAx.out
  have GB := Lib.hid GBx.out
  have G8 := Lib.hid G8x.out
  have G9 := Lib.hid G9x.out
  have K3 := Lib.hid K3x.out
  clear K3x GAx GBx G8x G9x
  obtain ⟨x0, x1, x2, x3, x4, x5, x6, x7⟩ := row8 GA.out
  obtain ⟨y0, y1, y2, y3, y4, y5, y6, y7⟩ := row8 G8.out
  go_wp2_with fail
  refine (H8.out _ K3.out).mono ?_
  rintro e w7 ⟨rfl, kk⟩
  clear G8
  clear x0 x1 x2 x3 x4 x5 x6 x7 y0 y1 y2 y3 y4 y5 y6 y7
  have GAx := Lib.hid (heap_block kk GA.out)
  have GBx := Lib.hid (heap_block kk GB.out)
  have G9x := Lib.hid (heap_block kk G9.out)
  have K3x := Lib.hid (K3.out.trans kk)
  clear kk K3 GA GB G9
  have GA := Lib.hid GAx.out
  have GB := Lib.hid GBx.out
  have G9 := Lib.hid G9x.out
  have K3 := Lib.hid K3x.out
  clear K3x GAx GBx G9x
  obtain ⟨x0, x1, x2, x3, x4, x5, x6, x7⟩ := row8 GA.out
  obtain ⟨y0, y1, y2, y3, y4, y5, y6, y7⟩ := row8 G9.out
  go_wp2_with fail
  refine (H9.out _ K3.out).mono ?_
  rintro e w8 ⟨rfl, kk⟩
  clear G9
  clear x0 x1 x2 x3 x4 x5 x6 x7 y0 y1 y2 y3 y4 y5 y6 y7
  have GAx := Lib.hid (heap_block kk GA.out)
  have GBx := Lib.hid (heap_block kk GB.out)
  have K3x := Lib.hid (K3.out.trans kk)
  clear kk K3 GA GB
  have GA := Lib.hid GAx.out
  have GB := Lib.hid GBx.out
  have K3 := Lib.hid K3x.out
  clear K3x GAx GBx
  obtain ⟨x0, x1, x2, x3, x4, x5, x6, x7⟩ := row8 GA.out
  obtain ⟨y0, y1, y2, y3, y4, y5, y6, y7⟩ := row8 GB.out
  go_wp2
  go_loopw [10, 11] (fun s i ws => s = .bool false ∧ i = .int .i64 0 ∧ Hid (Kp w8 ws)) (fun _ _ _ => 0)
  case atStart => exact ⟨rfl, rfl, Lib.hid (Kp.refl _)⟩
  case round =>
    obtain ⟨rfl, rfl, KL⟩ := hrel
    clear x0 x1 x2 x3 x4 x5 x6 x7 y0 y1 y2 y3 y4 y5 y6 y7
    have kl := KL.out
    have GAx := Lib.hid (heap_block kl GA.out)
    have GBx := Lib.hid (heap_block kl GB.out)
    have K3x := Lib.hid (K3.out.trans kl)
    clear kl GA GB K3
    have GA := Lib.hid GAx.out
    have GB := Lib.hid GBx.out
    have K3 := Lib.hid K3x.out
    clear GAx GBx K3x
    obtain ⟨x0, x1, x2, x3, x4, x5, x6, x7⟩ := row8 GA.out
    obtain ⟨y0, y1, y2, y3, y4, y5, y6, y7⟩ := row8 GB.out
    go_wp2_with fail
    refine (H1.out _ K3.out).mono ?_
    rintro e w9 ⟨rfl, kk⟩
    clear x0 x1 x2 x3 x4 x5 x6 x7 y0 y1 y2 y3 y4 y5 y6 y7
    have GAx := Lib.hid (heap_block kk GA.out)
    have GBx := Lib.hid (heap_block kk GB.out)
    have K3x := Lib.hid (K3.out.trans kk)
    clear kk K3 GA GB
    have GA := Lib.hid GAx.out
    have GB := Lib.hid GBx.out
    have K3 := Lib.hid K3x.out
    clear K3x GAx GBx
    obtain ⟨x0, x1, x2, x3, x4, x5, x6, x7⟩ := row8 GA.out
    obtain ⟨y0, y1, y2, y3, y4, y5, y6, y7⟩ := row8 GB.out
    go_wp2_with fail
    refine (H2.out _ K3.out).mono ?_
    rintro e w10 ⟨rfl, kk⟩
    have KF := Lib.hid (K3.out.trans kk)
    clear kk
    go_wp2
    go_ret
    exact ⟨rfl, KF.out⟩
set_option maxHeartbeats 16000000 in
set_option maxRecDepth 100000 in
theorem treeSame_yes7 (k pk : Int) (y m q : ByteArray) (a t : Bool) (l : List ND) (ad : Option Addr) (cp : Nat) (l' : List ND) (ad' : Option Addr) (cp' : Nat) (w : World) (hu : NodesAt w (.slice ad l.length cp) l) (hv : NodesAt w (.slice ad' l'.length cp') l') (bn : cntL l ≤ 2000000) (bm : cntL l' ≤ 2000000) (gk : -9223372036854775808 ≤ k ∧ k ≤ 9223372036854775807) (T : TabSH w) (hf : fewN (.mk k ⟨pk, y, m, q⟩ a t l : ND) = true) (hg : fewN (.mk k ⟨pk, y, m, q⟩ a t l' : ND) = true) (hk : l.length ≠ l'.length) : Calls Tryd.prog 11 #[.agg #[.int .i64 k, .int .i64 pk, .string y, .string m, .string q, .bool a, .bool t, .slice ad l.length cp], .agg #[.int .i64 k, .int .i64 pk, .string y, .string m, .string q, .bool a, .bool t, .slice ad' l'.length cp']] w fun e w' => e = .returned (.bool true) ∧ Kp w w' := by
  have AW := Lib.hid (fun w1 (qq : Kp w w1) => awake10 w1 (T.kp qq))
  have F1 : ∀ w1, Kp w w1 → Calls Tryd.prog 36 #[.agg #[.int .i64 k, .int .i64 pk, .string y, .string m, .string q, .bool a, .bool t, .slice ad l.length cp]] w1 fun e w' => e = .returned (.bool (fewN (.mk k ⟨pk, y, m, q⟩ a t l : ND))) ∧ Kp w1 w' := fun w1 qq => rfewN_any (.mk k ⟨pk, y, m, q⟩ a t l : ND) (.slice ad l.length cp) w1 (hu.kp qq) bn
  have F2 : ∀ w1, Kp w w1 → Calls Tryd.prog 36 #[.agg #[.int .i64 k, .int .i64 pk, .string y, .string m, .string q, .bool a, .bool t, .slice ad' l'.length cp']] w1 fun e w' => e = .returned (.bool (fewN (.mk k ⟨pk, y, m, q⟩ a t l' : ND))) ∧ Kp w1 w' := fun w1 qq => rfewN_any (.mk k ⟨pk, y, m, q⟩ a t l' : ND) (.slice ad' l'.length cp') w1 (hv.kp qq) bm
  rw [hf] at F1
  rw [hg] at F2
  have F1H := Lib.hid F1
  have F2H := Lib.hid F2
  have cn := few_cnt hf
  have cm := few_cnt hg
  have hq := few_short hf
  have S6 : ∀ w1, Kp w w1 → Calls Tryd.prog 45 #[.agg #[.int .i64 k, .int .i64 pk, .string y, .string m, .string q, .bool (!a), .bool t, .slice ad l.length cp], .agg #[.int .i64 k, .int .i64 pk, .string y, .string m, .string q, .bool a, .bool t, .slice ad l.length cp]] w1 fun e w' => e = .returned (.bool false) ∧ Kp w1 w' := fun w1 qq => by
    have this := tSame_any (.mk k ⟨pk, y, m, q⟩ (!a) t l : ND) (.mk k ⟨pk, y, m, q⟩ a t l : ND) (.slice ad l.length cp) (.slice ad l.length cp) w1 (hu.kp qq) (hu.kp qq) cn
    rw [same_no (by intro h; simp at h)] at this
    exact this
  have H6 := Lib.hid S6
  clear S6
  have S7 : ∀ w1, Kp w w1 → Calls Tryd.prog 45 #[.agg #[.int .i64 k, .int .i64 pk, .string y, .string m, .string q, .bool a, .bool t, .slice ad l.length cp], .agg #[.int .i64 k, .int .i64 pk, .string y, .string m, .string q, .bool a, .bool (!t), .slice ad l.length cp]] w1 fun e w' => e = .returned (.bool false) ∧ Kp w1 w' := fun w1 qq => by
    have this := tSame_any (.mk k ⟨pk, y, m, q⟩ a t l : ND) (.mk k ⟨pk, y, m, q⟩ a (!t) l : ND) (.slice ad l.length cp) (.slice ad l.length cp) w1 (hu.kp qq) (hu.kp qq) cn
    rw [same_no (by intro h; simp at h)] at this
    exact this
  have H7 := Lib.hid S7
  clear S7
  have S8 : ∀ w1, Kp w w1 → Calls Tryd.prog 45 #[.agg #[.int .i64 (bits .xor .i64 k 1), .int .i64 pk, .string y, .string m, .string q, .bool a, .bool t, .slice ad l.length cp], .agg #[.int .i64 k, .int .i64 pk, .string y, .string m, .string q, .bool a, .bool t, .slice ad l.length cp]] w1 fun e w' => e = .returned (.bool false) ∧ Kp w1 w' := fun w1 qq => by
    have this := tSame_any (.mk (bits .xor .i64 k 1) ⟨pk, y, m, q⟩ a t l : ND) (.mk k ⟨pk, y, m, q⟩ a t l : ND) (.slice ad l.length cp) (.slice ad l.length cp) w1 (hu.kp qq) (hu.kp qq) cn
    rw [same_no (by intro h; simp only [ND.mk.injEq] at h; exact xor_ne k h.1)] at this
    exact this
  have H8 := Lib.hid S8
  clear S8
  have S9 : ∀ w1, Kp w w1 → Calls Tryd.prog 45 #[.agg #[.int .i64 k, .int .i64 pk, .string y, .string m, .string q, .bool a, .bool t, .slice ad l.length cp], .agg #[.int .i64 k, .int .i64 pk, .string y, .string m, .string (q ++ ⟨#[88]⟩), .bool a, .bool t, .slice ad l.length cp]] w1 fun e w' => e = .returned (.bool false) ∧ Kp w1 w' := fun w1 qq => by
    have this := tSame_any (.mk k ⟨pk, y, m, q⟩ a t l : ND) (.mk k ⟨pk, y, m, (q ++ ⟨#[88]⟩)⟩ a t l : ND) (.slice ad l.length cp) (.slice ad l.length cp) w1 (hu.kp qq) (hu.kp qq) cn
    rw [same_no (by intro h; simp only [ND.mk.injEq, PT.mk.injEq] at h; exact app_ne q h.2.1.2.2.2.symm)] at this
    exact this
  have H9 := Lib.hid S9
  clear S9
  have HN : (.mk k ⟨pk, y, m, q⟩ a t l : ND) ≠ (.mk k ⟨pk, y, m, q⟩ a t l' : ND) := by
    intro h
    simp only [ND.mk.injEq, PT.mk.injEq] at h
    exact hk (by rw [h.2.2.2.2])
  have S1 : ∀ w1, Kp w w1 → Calls Tryd.prog 45 #[.agg #[.int .i64 k, .int .i64 pk, .string y, .string m, .string q, .bool a, .bool t, .slice ad l.length cp], .agg #[.int .i64 k, .int .i64 pk, .string y, .string m, .string q, .bool a, .bool t, .slice ad' l'.length cp']] w1 fun e w' => e = .returned (.bool false) ∧ Kp w1 w' := fun w1 qq => by
    have this := tSame_any (.mk k ⟨pk, y, m, q⟩ a t l : ND) (.mk k ⟨pk, y, m, q⟩ a t l' : ND) (.slice ad l.length cp) (.slice ad' l'.length cp') w1 (hu.kp qq) (hv.kp qq) cn
    rw [same_no HN] at this
    exact this
  have H1 := Lib.hid S1
  clear S1
  have S2 : ∀ w1, Kp w w1 → Calls Tryd.prog 45 #[.agg #[.int .i64 k, .int .i64 pk, .string y, .string m, .string q, .bool a, .bool t, .slice ad' l'.length cp'], .agg #[.int .i64 k, .int .i64 pk, .string y, .string m, .string q, .bool a, .bool t, .slice ad l.length cp]] w1 fun e w' => e = .returned (.bool false) ∧ Kp w1 w' := fun w1 qq => by
    have this := tSame_any (.mk k ⟨pk, y, m, q⟩ a t l' : ND) (.mk k ⟨pk, y, m, q⟩ a t l : ND) (.slice ad' l'.length cp') (.slice ad l.length cp) w1 (hv.kp qq) (hu.kp qq) cm
    rw [same_no (fun h => HN h.symm)] at this
    exact this
  have H2 := Lib.hid S2
  clear S2
  have HU := Lib.hid hu
  have HV := Lib.hid hv
  have HCN := Lib.hid cn
  have HCM := Lib.hid cm
  have e1 : ((l.length : Int) == (l'.length : Int)) = false := beq_eq_false_iff_ne.2 (by omega)
  clear hk HN
  clear F1 F2 hu hv T hf hg bn bm cn cm
  go_enter Tryd.func11, Tryd.ntmps11
  go_wp2_with fail
  refine (AW.out _ ((Kp.alloc _ _).trans (Kp.alloc _ _))).mono ?_
  rintro e w1 ⟨rfl, kk⟩
  have gA := heap_block ((Kp.alloc _ _).trans kk) (heap_at w (.cells #[.int .i64 k, .int .i64 pk, .string y, .string m, .string q, .bool a, .bool t, .slice ad l.length cp] 54) w.heap.size rfl)
  have gB := heap_block kk (heap_at (w.alloc (.cells #[.int .i64 k, .int .i64 pk, .string y, .string m, .string q, .bool a, .bool t, .slice ad l.length cp] 54)) (.cells #[.int .i64 k, .int .i64 pk, .string y, .string m, .string q, .bool a, .bool t, .slice ad' l'.length cp'] 54) (w.heap.size + 1) (by simp))
  have K1 := Lib.hid (((Kp.alloc _ _).trans (Kp.alloc _ _)).trans kk)
  have GA := Lib.hid gA
  have GB := Lib.hid gB
  clear kk gA gB
  obtain ⟨x0, x1, x2, x3, x4, x5, x6, x7⟩ := row8 GA.out
  go_wp2_with fail
  refine (F1H.out _ K1.out).mono ?_
  rintro e w2 ⟨rfl, kk⟩
  have K2 := Lib.hid (K1.out.trans kk)
  have GA2 := Lib.hid (heap_block kk GA.out)
  have GB2 := Lib.hid (heap_block kk GB.out)
  clear kk x0 x1 x2 x3 x4 x5 x6 x7 GA GB
  obtain ⟨x0, x1, x2, x3, x4, x5, x6, x7⟩ := row8 GB2.out
  go_wp2_with fail
  refine (F2H.out _ K2.out).mono ?_
  rintro e w3 ⟨rfl, kk⟩
  have K3 := Lib.hid (K2.out.trans kk)
  have GA := Lib.hid (heap_block kk GA2.out)
  have GB := Lib.hid (heap_block kk GB2.out)
  clear kk x0 x1 x2 x3 x4 x5 x6 x7 GA2 GB2
  have z3 : w.heap.size + 1 < w3.heap.size := (Array.getElem?_eq_some_iff.1 GB.out).1
  have n0 : ¬ w.heap.size = w3.heap.size := by omega
  have hq1 : ¬ 9223372036854775807 < q.size + 1 := by have : q.size ≤ 10 := hq; omega
  have n1 : ¬ w.heap.size = w3.heap.size + 1 := by omega
  have n2 : ¬ w.heap.size = w3.heap.size + 1 + 1 := by omega
  have n3 : ¬ w.heap.size = w3.heap.size + 1 + 1 + 1 := by omega
  have l0 : w.heap.size < w3.heap.size := by omega
  have l1 : w.heap.size < w3.heap.size + 1 := by omega
  have l2 : w.heap.size < w3.heap.size + 1 + 1 := by omega
  have l3 : w.heap.size < w3.heap.size + 1 + 1 + 1 := by omega
  obtain ⟨x0, x1, x2, x3, x4, x5, x6, x7⟩ := row8 GA.out
  go_wp2_with fail
  obtain ⟨W4, hW4⟩ : ∃ x, x = (((w3.alloc (.cells #[.int .i64 k, .int .i64 pk, .string y, .string m, .string q, .bool (!a), .bool t, .slice ad l.length cp] 54)).alloc (.cells #[.int .i64 k, .int .i64 pk, .string y, .string m, .string q, .bool a, .bool (!t), .slice ad l.length cp] 54)).alloc (.cells #[.int .i64 (bits .xor .i64 k 1), .int .i64 pk, .string y, .string m, .string q, .bool a, .bool t, .slice ad l.length cp] 54)).alloc (.cells #[.int .i64 k, .int .i64 pk, .string y, .string m, .string (q ++ ⟨#[88]⟩), .bool a, .bool t, .slice ad l.length cp] 54) := ⟨_, rfl⟩
  have kw4 : Kp w3 W4 := by rw [hW4]; exact (Kp.alloc _ _).trans ((Kp.alloc _ _).trans ((Kp.alloc _ _).trans (Kp.alloc _ _)))
  have g7 : W4.heap[w3.heap.size + 1]? = some (.cells #[.int .i64 k, .int .i64 pk, .string y, .string m, .string q, .bool a, .bool (!t), .slice ad l.length cp] 54 (0, 0)) := by rw [hW4]; exact heap_block ((Kp.alloc _ _).trans (Kp.alloc _ _)) (heap_at _ _ _ (by simp))
  have g8 : W4.heap[w3.heap.size + 1 + 1]? = some (.cells #[.int .i64 (bits .xor .i64 k 1), .int .i64 pk, .string y, .string m, .string q, .bool a, .bool t, .slice ad l.length cp] 54 (0, 0)) := by rw [hW4]; exact heap_block (Kp.alloc _ _) (heap_at _ _ _ (by simp))
  have g9 : W4.heap[w3.heap.size + 1 + 1 + 1]? = some (.cells #[.int .i64 k, .int .i64 pk, .string y, .string m, .string (q ++ ⟨#[88]⟩), .bool a, .bool t, .slice ad l.length cp] 54 (0, 0)) := by rw [hW4]; exact heap_at _ _ _ (by simp)
  rw [← hW4]
  have GAx := Lib.hid (heap_block kw4 GA.out)
  have GBx := Lib.hid (heap_block kw4 GB.out)
  have K3x := Lib.hid (K3.out.trans kw4)
  clear GA GB K3 n0 n1 n2 n3 l0 l1 l2 l3 x0 x1 x2 x3 x4 x5 x6 x7 kw4 z3 hW4
  have GA := Lib.hid GAx.out
  have GB := Lib.hid GBx.out
  have K3 := Lib.hid K3x.out
  have G7 := Lib.hid g7
  have G8 := Lib.hid g8
  have G9 := Lib.hid g9
  clear g7 g8 g9 GAx GBx K3x hq1
  refine (H6.out _ K3.out).mono ?_
  rintro e w5 ⟨rfl, kk⟩
  have GAx := Lib.hid (heap_block kk GA.out)
  have GBx := Lib.hid (heap_block kk GB.out)
  have G7x := Lib.hid (heap_block kk G7.out)
  have G8x := Lib.hid (heap_block kk G8.out)
  have G9x := Lib.hid (heap_block kk G9.out)
  have K3x := Lib.hid (K3.out.trans kk)
  clear kk K3 GA GB G7 G8 G9
  have GA := Lib.hid GAx.out
  have GB := Lib.hid GBx.out
  have G7 := Lib.hid G7x.out
  have G8 := Lib.hid G8x.out
  have G9 := Lib.hid G9x.out
  have K3 := Lib.hid K3x.out
  clear K3x GAx GBx G7x G8x G9x
  obtain ⟨x0, x1, x2, x3, x4, x5, x6, x7⟩ := row8 GA.out
  obtain ⟨y0, y1, y2, y3, y4, y5, y6, y7⟩ := row8 G7.out
  go_wp2_with fail
  refine (H7.out _ K3.out).mono ?_
  rintro e w6 ⟨rfl, kk⟩
  clear G7
  clear x0 x1 x2 x3 x4 x5 x6 x7 y0 y1 y2 y3 y4 y5 y6 y7
  have GAx := Lib.hid (heap_block kk GA.out)
  have GBx := Lib.hid (heap_block kk GB.out)
  have G8x := Lib.hid (heap_block kk G8.out)
  have G9x := Lib.hid (heap_block kk G9.out)
  have K3x := Lib.hid (K3.out.trans kk)
  clear kk K3 GA GB G8 G9
  have GA := Lib.hid GAx.out
  have GB := Lib.hid GBx.out
  have G8 := Lib.hid G8x.out
  have G9 := Lib.hid G9x.out
  have K3 := Lib.hid K3x.out
  clear K3x GAx GBx G8x G9x
  obtain ⟨x0, x1, x2, x3, x4, x5, x6, x7⟩ := row8 GA.out
  obtain ⟨y0, y1, y2, y3, y4, y5, y6, y7⟩ := row8 G8.out
  go_wp2_with fail
  refine (H8.out _ K3.out).mono ?_
  rintro e w7 ⟨rfl, kk⟩
  clear G8
  clear x0 x1 x2 x3 x4 x5 x6 x7 y0 y1 y2 y3 y4 y5 y6 y7
  have GAx := Lib.hid (heap_block kk GA.out)
  have GBx := Lib.hid (heap_block kk GB.out)
  have G9x := Lib.hid (heap_block kk G9.out)
  have K3x := Lib.hid (K3.out.trans kk)
  clear kk K3 GA GB G9
  have GA := Lib.hid GAx.out
  have GB := Lib.hid GBx.out
  have G9 := Lib.hid G9x.out
  have K3 := Lib.hid K3x.out
  clear K3x GAx GBx G9x
  obtain ⟨x0, x1, x2, x3, x4, x5, x6, x7⟩ := row8 GA.out
  obtain ⟨y0, y1, y2, y3, y4, y5, y6, y7⟩ := row8 G9.out
  go_wp2_with fail
  refine (H9.out _ K3.out).mono ?_
  rintro e w8 ⟨rfl, kk⟩
  clear G9
  clear x0 x1 x2 x3 x4 x5 x6 x7 y0 y1 y2 y3 y4 y5 y6 y7
  have GAx := Lib.hid (heap_block kk GA.out)
  have GBx := Lib.hid (heap_block kk GB.out)
  have K3x := Lib.hid (K3.out.trans kk)
  clear kk K3 GA GB
  have GA := Lib.hid GAx.out
  have GB := Lib.hid GBx.out
  have K3 := Lib.hid K3x.out
  clear K3x GAx GBx
  obtain ⟨x0, x1, x2, x3, x4, x5, x6, x7⟩ := row8 GA.out
  obtain ⟨y0, y1, y2, y3, y4, y5, y6, y7⟩ := row8 GB.out
  go_wp2
  go_loopw [10, 11] (fun s i ws => s = .bool false ∧ i = .int .i64 0 ∧ Hid (Kp w8 ws)) (fun _ _ _ => 0)
  case atStart => exact ⟨rfl, rfl, Lib.hid (Kp.refl _)⟩
  case round =>
    obtain ⟨rfl, rfl, KL⟩ := hrel
    clear x0 x1 x2 x3 x4 x5 x6 x7 y0 y1 y2 y3 y4 y5 y6 y7
    have kl := KL.out
    have GAx := Lib.hid (heap_block kl GA.out)
    have GBx := Lib.hid (heap_block kl GB.out)
    have K3x := Lib.hid (K3.out.trans kl)
    clear kl GA GB K3
    have GA := Lib.hid GAx.out
    have GB := Lib.hid GBx.out
    have K3 := Lib.hid K3x.out
    clear GAx GBx K3x
    obtain ⟨x0, x1, x2, x3, x4, x5, x6, x7⟩ := row8 GA.out
    obtain ⟨y0, y1, y2, y3, y4, y5, y6, y7⟩ := row8 GB.out
    go_wp2_with fail
    refine (H1.out _ K3.out).mono ?_
    rintro e w9 ⟨rfl, kk⟩
    clear x0 x1 x2 x3 x4 x5 x6 x7 y0 y1 y2 y3 y4 y5 y6 y7
    have GAx := Lib.hid (heap_block kk GA.out)
    have GBx := Lib.hid (heap_block kk GB.out)
    have K3x := Lib.hid (K3.out.trans kk)
    clear kk K3 GA GB
    have GA := Lib.hid GAx.out
    have GB := Lib.hid GBx.out
    have K3 := Lib.hid K3x.out
    clear K3x GAx GBx
    obtain ⟨x0, x1, x2, x3, x4, x5, x6, x7⟩ := row8 GA.out
    obtain ⟨y0, y1, y2, y3, y4, y5, y6, y7⟩ := row8 GB.out
    go_wp2_with fail
    refine (H2.out _ K3.out).mono ?_
    rintro e w10 ⟨rfl, kk⟩
    have KF := Lib.hid (K3.out.trans kk)
    clear kk
    go_wp2
    go_ret
    exact ⟨rfl, KF.out⟩
end Go.Proofs.YtbjnghmmfolaeaaDoor
