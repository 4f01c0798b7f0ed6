/-
  Joined: 8T, TrE, TrF, TrG, TrH, TrI, OpenN.
-/
import Derived.Test.YtndmohamjffpcaaDoorGPtA
import Derived.Test.YtndmohamjffpcaaDoorRows
import Derived.Stop.LaidErr
import Derived.Lib.LaidTab
import Derived.Lib.SmallJoins
import Derived.Test.YtndmohamjffpcaaDoorGTrA
import Derived.Test.YtndmohamjffpcaaDoorGLeafA
import Derived.Deep.Slices
import Derived.ChangeArms
namespace Go.Proofs.YtndmohamjffpcaaDoor
open Go.RowKit Go.Lib Go.ChangeShapes Go.WideShapes Go.Deep Go.Joins
set_option linter.unusedVariables false
set_option linter.unusedSimpArgs false
theorem cells_i1 : Tryd.prog.cellsOf 3 = 1 := by kernel_rfl
theorem cells_s1 : Tryd.prog.cellsOf 9 = 1 := by kernel_rfl
theorem cells_sh : Tryd.prog.cellsOf 89 = 5 := by kernel_rfl
theorem cells_sh6 : Tryd.prog.cellsOf 90 = 30 := by kernel_rfl
theorem cells_pt : Tryd.prog.cellsOf 23 = 4 := by kernel_rfl
theorem gt_s6 : (Tryd.prog.globals[0]?).map (·.type) = some 90 := by kernel_rfl
def shpD {H : Type} (a b c d : Int) (s : List UInt8) : DataW H := .agg [.lit (.int .i64 a), .lit (.int .i64 b), .lit (.int .i64 c), .lit (.int .i64 d), .lit (.string s)]
def shpsD {H : Type} : DataW H := .agg [shpD 4 2 2 12 [], shpD 4 2 0 12 [], shpD 4 1 0 4 [], shpD 4 0 0 0 [], shpD 3 0 0 0 [100], shpD 2 0 0 0 [99]]
section
variable {H : Type} {enc : TypeId × Value → H} {w : World} {base : Nat} {sp : Nat → Bool} {held : Bool} {fuel : Nat}
set_option maxRecDepth 100000 in
theorem shape_row {L : List Value} {y : DataW H × List MemPlace} {a b c d : Int} {s : List UInt8} (h : DataW.trod enc Tryd.prog w base sp held fuel 89 L = some y) (hy : y.1 = shpD a b c d s) :
    L = [.int .i64 a, .int .i64 b, .int .i64 c, .int .i64 d, .string ⟨s.toArray⟩] := by
  obtain ⟨xs, k', hk, hxy, hlen, hxl, hf'⟩ := DataW.trod_struct Tryd.underlying89 h
  rw [cells_sh] at hlen
  match xs, hxl, L, hlen with
  | [y0, y1, y2, y3, y4], _, [v0, v1, v2, v3, v4], _ =>
    have g0 := hf' 0 _ rfl
    have g1 := hf' 1 _ rfl
    have g2 := hf' 2 _ rfl
    have g3 := hf' 3 _ rfl
    have g4 := hf' 4 _ rfl
    simp [cells_i1, cells_s1] at g0 g1 g2 g3 g4
    obtain ⟨x0, q0, e0, _⟩ := DataW.trod_int Tryd.underlying3 g0
    obtain ⟨x1, q1, e1, _⟩ := DataW.trod_int Tryd.underlying3 g1
    obtain ⟨x2, q2, e2, _⟩ := DataW.trod_int Tryd.underlying3 g2
    obtain ⟨x3, q3, e3, _⟩ := DataW.trod_int Tryd.underlying3 g3
    obtain ⟨x4, q4, e4, _⟩ := DataW.trod_string Tryd.underlying9 g4
    subst e0 e1 e2 e3 e4
    rw [hxy] at hy
    simp only [List.map_cons, List.map_nil, shpD, DataW.agg.injEq, List.cons.injEq, DataW.lit.injEq, Lit.int.injEq, Lit.string.injEq, true_and, and_true] at hy
    simp only [List.cons.injEq, and_true] at q0 q1 q2 q3 q4
    obtain ⟨r0, r1, r2, r3, r4⟩ := hy
    rw [q0, q1, q2, q3, q4, r0, r1, r2, r3, ← r4]
set_option maxRecDepth 100000 in
theorem shapes_cells {cs : List Value} {p : List MemPlace} (h : DataW.trod enc Tryd.prog w base sp held fuel 90 cs = some (shpsD, p)) : cs = shpCells := by
  cases fuel with
  | zero => simp [DataW.trod] at h
  | succ fuel =>
    simp only [DataW.trod, Tryd.underlying90, cells_sh, cells_sh6] at h
    split at h
    · rename_i hl
      obtain ⟨xs, hm, hx⟩ := Option.map_eq_some_iff.1 h
      have hxs := congrArg Prod.fst hx
      simp only [shpsD, DataW.agg.injEq] at hxs
      have hxl : xs.length = 6 := by simpa using mapM_length hm
      match xs, hxl with
      | [y0, y1, y2, y3, y4, y5], _ =>
        simp only [List.map_cons, List.map_nil, List.cons.injEq, and_true] at hxs
        obtain ⟨h0, h1, h2, h3, h4, h5⟩ := hxs
        have at_ : ∀ i, i < 6 → ∃ b, [y0, y1, y2, y3, y4, y5][i]? = some b ∧ DataW.trod enc Tryd.prog w base sp held fuel 89 ((cs.drop (i * 5)).take 5) = some b := fun i hi => mapM_at hm i i (by simp [hi])
        obtain ⟨z0, b0, t0⟩ := at_ 0 (by decide)
        obtain ⟨z1, b1, t1⟩ := at_ 1 (by decide)
        obtain ⟨z2, b2, t2⟩ := at_ 2 (by decide)
        obtain ⟨z3, b3, t3⟩ := at_ 3 (by decide)
        obtain ⟨z4, b4, t4⟩ := at_ 4 (by decide)
        obtain ⟨z5, b5, t5⟩ := at_ 5 (by decide)
        simp only [List.getElem?_cons_zero, List.getElem?_cons_succ, Option.some.injEq] at b0 b1 b2 b3 b4 b5
        subst b0 b1 b2 b3 b4 b5
        have r0 := shape_row t0 h0
        have r1 := shape_row t1 h1
        have r2 := shape_row t2 h2
        have r3 := shape_row t3 h3
        have r4 := shape_row t4 h4
        have r5 := shape_row t5 h5
        have e : cs = (cs.drop (0 * 5)).take 5 ++ ((cs.drop (1 * 5)).take 5 ++ ((cs.drop (2 * 5)).take 5 ++ ((cs.drop (3 * 5)).take 5 ++ ((cs.drop (4 * 5)).take 5 ++ (cs.drop (5 * 5)).take 5)))) := by
          have s : ∀ n, cs.drop n = (cs.drop n).take 5 ++ cs.drop (n + 5) := fun n => by
            rw [← List.drop_drop, List.take_append_drop]
          have l : (cs.drop 25).take 5 = cs.drop 25 := List.take_of_length_le (by rw [List.length_drop]; omega)
          have s0 := s 0
          have s5 := s 5
          have s10 := s 10
          have s15 := s 15
          have s20 := s 20
          simp only [Nat.zero_add, Nat.reduceAdd, Nat.reduceMul, List.drop_zero] at *
          rw [l, ← s20, ← s15, ← s10, ← s5, ← s0]
        rw [e, r0, r1, r2, r3, r4, r5]
        rfl
    · cases h
end
theorem shapes_of_head {W : World} {rest : List (String × DataW Unit)} (h : laidMet Tryd.prog (("lustrum/point.shapes", shpsD) :: rest) W) : TabSH W := by
  obtain ⟨ps, ⟨g', t', cs, fuel, p, q, hg', ht', hvar, hd, _, _⟩, _⟩ := h
  obtain rfl := Option.some.inj (gSH.symm.trans hg')
  obtain rfl := Option.some.inj (gt_s6.symm.trans ht')
  unfold TabSH
  rw [hvar, ← shapes_cells hd]
theorem tabs_of1 {W : World} (h : laidMetH Tryd.prog [("lustrum/point.shapes", Rows.laid_lustrum_point_shapes)] W) : TabSH W := by
  have h1 : laidMet Tryd.prog [("lustrum/point.shapes", shpsD)] W := h
  exact shapes_of_head h1
section
variable {H : Type} {enc : TypeId × Value → H} {W : World} {v : Value} {d : DataW H} {p : List MemPlace} {base : Nat}
set_option maxRecDepth 100000 in
theorem open_point (hv : Value.okWide Tryd.prog W .any base 23 v) (h : DataW.Trod enc Tryd.prog W 0 (fun _ => true) true 23 v d p) : ∃ q : PT, v = ptV q ∧ -9223372036854775808 ≤ q.k ∧ q.k ≤ 9223372036854775807 ∧ q.y.size ≤ maxLen ∧ q.m.size ≤ maxLen ∧ q.d.size ≤ maxLen := by
  obtain ⟨v0, v1, v2, v3, y0, y1, y2, y3, n, rfl, _, _, t0, t1, t2, t3⟩ := open_agg4 Tryd.underlying23 (by kernel_rfl) cells_pt hv h
  obtain ⟨k, e0, _, w0⟩ := DataW.trod_int Tryd.underlying3 t0
  obtain ⟨s1, e1, _, w1⟩ := DataW.trod_string Tryd.underlying9 t1
  obtain ⟨s2, e2, _, w2⟩ := DataW.trod_string Tryd.underlying9 t2
  obtain ⟨s3, e3, _, w3⟩ := DataW.trod_string Tryd.underlying9 t3
  simp only [List.cons.injEq, and_true] at e0 e1 e2 e3
  subst e0 e1 e2 e3
  exact ⟨⟨k, s1, s2, s3⟩, rfl, (wf_bd w0).1, (wf_bd w0).2, w1, w2, w3⟩
end
end Go.Proofs.YtndmohamjffpcaaDoor

namespace Go.Proofs.YtndmohamjffpcaaDoor
open Go.RowKit
set_option linter.unusedVariables false
set_option linter.unusedSimpArgs false
/-- an expression in so many lists, behind so many nodes -/
def okX (c j : Int) (n : ND) : Bool := decide (c + (cntN n : Int) ≤ 64) && (decide (j + (depN n : Int) ≤ 8) && rightN saneP n)
theorem RowN.kx {X : Nat → Prop} {w w' : World} {b o : Nat} {n : ND} {lv : Value} (h : RowN w b o n lv) (k : KX X w w') (hb : ¬ X b) : RowN w' b o n lv := by
  obtain ⟨h0, h1, h2, h3, h4, h5, h6, h7⟩ := h
  exact ⟨k.cell h0 hb, k.cell h1 hb, k.cell h2 hb, k.cell h3 hb, k.cell h4 hb, k.cell h5 hb, k.cell h6 hb, k.cell h7 hb⟩
theorem endN_leaf {sp : PT → Bool} {n : ND} (h : endN sp n = true) : n.l = [] := by
  unfold endN at h
  simp only [Bool.or_eq_true, Bool.and_eq_true, List.isEmpty_iff] at h
  rcases h with ⟨_, _, h⟩ | ⟨_, _, h⟩ <;> exact h
theorem okX_end {c j : Int} {p : PT} {a t : Bool} {l : List ND} (hc : c ≤ 63) (hj : j ≤ 8) : okX c j (.mk 0 p a t l) = endN saneP (.mk 0 p a t l) := by
  unfold okX
  have e : rightN saneP (.mk 0 p a t l) = endN saneP (.mk 0 p a t l) := by simp [rightN]
  rw [e]
  cases h : endN saneP (.mk 0 p a t l) with
  | false => simp
  | true =>
    have hl : l = [] := endN_leaf h
    subst hl
    simp [cntN, cntL, depN, depL]
    omega
theorem okX_other {c j k : Int} {p : PT} {a t : Bool} {l : List ND} (h0 : (k == 0) = false) (h1 : (k == 1) = false) (h2 : (k == 2) = false) : okX c j (.mk k p a t l) = false := by
  unfold okX
  have e : rightN saneP (.mk k p a t l) = false := by simp only [rightN, h0, h1, h2, Bool.false_and, Bool.or_false]
  rw [e]
  simp
theorem okX_full {c j : Int} {n : ND} (hc : 64 ≤ c) : okX c j n = false := by
  unfold okX
  have := cnt_pos n
  rw [decide_eq_false (by omega), Bool.false_and]
theorem okX_span {c j : Int} {p : PT} {a t : Bool} {l : List ND} (hj : j ≤ 8) : okX c j (.mk 1 p a t l) = (bareN (.mk 1 p a t l) && (twoN saneP l && decide (c + 3 ≤ 64))) := by
  unfold okX
  have e : rightN saneP (.mk 1 p a t l) = (bareN (.mk 1 p a t l) && twoN saneP l) := by simp [rightN]
  rw [e]
  cases hb : bareN (.mk 1 p a t l) with
  | false => simp
  | true =>
    cases ht : twoN saneP l with
    | false => simp
    | true =>
      match l, ht with
      | [x, y], ht =>
        simp only [twoN, Bool.and_eq_true] at ht
        have hx := endN_leaf ht.1
        have hy := endN_leaf ht.2
        have cx : cntN x = 1 := by rw [cntN_mk, hx]; rfl
        have cy : cntN y = 1 := by rw [cntN_mk, hy]; rfl
        have dx : depN x = 0 := by
          have := ht.1
          unfold endN at this
          rw [depN_mk, hx]
          by_cases k2 : x.k = 2
          · rw [k2] at this; simp at this
          · simp [depL, k2]
        have dy : depN y = 0 := by
          have := ht.2
          unfold endN at this
          rw [depN_mk, hy]
          by_cases k2 : y.k = 2
          · rw [k2] at this; simp at this
          · simp [depL, k2]
        simp only [cntN, cntL, depN, depL, cx, cy, dx, dy]
        have : decide (j + ((max 0 (max 0 0) + ((1 : Int) == 2).toNat : Nat) : Int) ≤ 8) = true := by simp; omega
        rw [this]
        simp
theorem okX_list {c j : Int} {p : PT} {a t : Bool} {l : List ND} (h : okX c j (.mk 2 p a t l) = true) : bareN (.mk 2 p a t l) = true ∧ l ≠ [] ∧ j < 8 := by
  unfold okX at h
  simp only [Bool.and_eq_true, decide_eq_true_eq] at h
  obtain ⟨_, h2, h3⟩ := h
  have e : rightN saneP (.mk 2 p a t l) = (bareN (.mk 2 p a t l) && (!l.isEmpty && rightL saneP l)) := by simp [rightN]
  rw [e, Bool.and_eq_true, Bool.and_eq_true] at h3
  refine ⟨h3.1, ?_, ?_⟩
  · intro e; rw [e] at h3; simp at h3
  · simp only [depN] at h2
    have : ((2 : Int) == 2).toNat = 1 := rfl
    omega
/-- of a list: each element -/
theorem okX_elem {c j : Int} {p : PT} {a t : Bool} {l : List ND} (h : okX c j (.mk 2 p a t l) = true) {i : Nat} (hi : i < l.length) : okX (c + 1 + (cntL (l.take i) : Int)) (j + 1) (nth l i) = true := by
  unfold okX at *
  simp only [Bool.and_eq_true, decide_eq_true_eq] at *
  obtain ⟨h1, h2, h3⟩ := h
  have e : rightN saneP (.mk 2 p a t l) = (bareN (.mk 2 p a t l) && (!l.isEmpty && rightL saneP l)) := by simp [rightN]
  rw [e, Bool.and_eq_true, Bool.and_eq_true, rightL_all] at h3
  simp only [cntN, depN] at h1 h2
  have ca := cnt_at hi
  have da := dep_at hi
  have : ((2 : Int) == 2).toNat = 1 := rfl
  exact ⟨by omega, by omega, List.all_eq_true.1 h3.2.2 _ (nth_mem hi)⟩
theorem depL_bd {l : List ND} {j : Int} : (∀ i, i < l.length → j + (depN (nth l i) : Int) ≤ 8) → j ≤ 8 → j + (depL l : Int) ≤ 8 := by
  intro h hj
  have : ∀ i, i ≤ l.length → j + (depL (l.take i) : Int) ≤ 8 := by
    intro i
    induction i with
    | zero => intro _; simp [depL]; exact hj
    | succ i ih =>
      intro hi
      have a := ih (by omega)
      have b := h i (by omega)
      rw [depL_take (by omega)]
      omega
  have g := this l.length (Nat.le_refl _)
  rwa [List.take_length] at g
theorem okX_all {c j : Int} {p : PT} {a t : Bool} {l : List ND} (hb : bareN (.mk 2 p a t l) = true) (hne : l ≠ []) (hj : j < 8) (hcc : c + 1 + (cntL l : Int) ≤ 64) (h : ∀ i, i < l.length → okX (c + 1 + (cntL (l.take i) : Int)) (j + 1) (nth l i) = true) : okX c j (.mk 2 p a t l) = true := by
  have e : rightN saneP (.mk 2 p a t l) = (bareN (.mk 2 p a t l) && (!l.isEmpty && rightL saneP l)) := by simp [rightN]
  have hd : j + 1 + (depL l : Int) ≤ 8 := depL_bd (fun i hi => by
    have := h i hi
    unfold okX at this
    simp only [Bool.and_eq_true, decide_eq_true_eq] at this
    exact this.2.1) (by omega)
  unfold okX
  simp only [Bool.and_eq_true, decide_eq_true_eq]
  refine ⟨by simp only [cntN]; omega, ?_, ?_⟩
  · simp only [depN]
    have : ((2 : Int) == 2).toNat = 1 := rfl
    omega
  · rw [e, hb, Bool.true_and, rightL_all, Bool.and_eq_true]
    refine ⟨by cases l with | nil => exact absurd rfl hne | cons x t => rfl, ?_⟩
    rw [List.all_eq_true]
    intro x hx
    obtain ⟨i, hi, rfl⟩ := List.getElem_of_mem hx
    have := h i hi
    unfold okX at this
    simp only [Bool.and_eq_true] at this
    have en : nth l i = l[i] := by unfold nth; simp [List.getD, hi]
    rw [← en]
    exact this.2.2
end Go.Proofs.YtndmohamjffpcaaDoor

namespace Go.Proofs.YtndmohamjffpcaaDoor
open Go.RowKit
set_option linter.unusedVariables false
set_option linter.unusedSimpArgs false
theorem two_of {l : List ND} (h : l.length = 2) : ∃ x z, l = [x, z] := by
  match l, h with
  | [x, z], _ => exact ⟨x, z, rfl⟩
theorem two_no {sp : PT → Bool} {l : List ND} (h : ¬ l.length = 2) : twoN sp l = false := by
  match l, h with
  | [], _ => rfl
  | [_], _ => rfl
  | [_, _], h => exact absurd rfl h
  | _ :: _ :: _ :: _, _ => rfl
theorem two_cnt {sp : PT → Bool} {x z : ND} (a : endN sp x = true) (b : endN sp z = true) : cntL [x, z] = 2 := by
  simp only [cntL]
  rw [cntN_mk x, cntN_mk z, endN_leaf a, endN_leaf b]
  rfl
set_option maxHeartbeats 16000000 in
set_option maxRecDepth 100000 in
theorem isx0_any (w0 : World) (BN BF : Nat) (h1 : BN ≠ BF) (b1 : w0.heap.size ≤ BN) (T : TabSH w0) (v : Value) (l : List ND)
    (hh : ∃ ad cp, v = .slice ad l.length cp ∧ (0 < l.length → ∃ b off, ad = some ⟨b, off, none⟩ ∧ ∀ i, i < l.length → ∃ vi, RowN w0 b (off + i * 8) (nth l i) vi ∧ NodesAt w0 vi (nth l i).l ∧ (fun v l => ∀ (k : Int) (p : PT) (a t : Bool) (j c : Int) (w : World), Kp w0 w → Cel w BN 3 (.int .i64 c) → Cel w BF 43 (.func (.func 21) #[] #[.pointer (some ⟨BN, 0, none⟩), .pointer (some ⟨BF, 0, none⟩)]) → 0 ≤ c ∧ c ≤ 64 → 0 ≤ j ∧ j ≤ 8 → cntL l ≤ 1000000 →
      Calls Tryd.prog 21 #[ndV (.mk k p a t l) v, .int .i64 j, .pointer (some ⟨BN, 0, none⟩), .pointer (some ⟨BF, 0, none⟩)] w fun e w' =>
        ∃ cv : Int, e = .returned (.bool (okX c j (.mk k p a t l))) ∧ KX (fun b => b = BN) w w' ∧ Cel w' BN 3 (.int .i64 cv) ∧ (okX c j (.mk k p a t l) = true → cv = c + (cntN (.mk k p a t l) : Int))) vi (nth l i).l)) :
    ∀ (p : PT) (a t : Bool) (j c : Int) (w : World), Kp w0 w → Cel w BN 3 (.int .i64 c) → Cel w BF 43 (.func (.func 21) #[] #[.pointer (some ⟨BN, 0, none⟩), .pointer (some ⟨BF, 0, none⟩)]) → 0 ≤ c ∧ c ≤ 64 → 0 ≤ j ∧ j ≤ 8 → cntL l ≤ 1000000 →
      Calls Tryd.prog 21 #[ndV (.mk 0 p a t l) v, .int .i64 j, .pointer (some ⟨BN, 0, none⟩), .pointer (some ⟨BF, 0, none⟩)] w fun e w' =>
        ∃ cv : Int, e = .returned (.bool (okX c j (.mk 0 p a t l))) ∧ KX (fun b => b = BN) w w' ∧ Cel w' BN 3 (.int .i64 cv) ∧ (okX c j (.mk 0 p a t l) = true → cv = c + (cntN (.mk 0 p a t l) : Int)) := by
  obtain ⟨ad, cp, rfl, hrow⟩ := hh
  intro p a t j c w k0 cn cf ⟨c0, c9⟩ ⟨j0, j9⟩ hl
  have ll := len_cntL l
  have CE := Lib.hid (fun w1 (q : Kp w0 w1) => end_any (.mk 0 p a t l) (.slice ad l.length cp) w1 ⟨_, _, rfl⟩ (T.kp q))
  have CB := Lib.hid (fun w1 => bare_any (.mk 0 p a t l) (.slice ad l.length cp) w1)
  obtain ⟨pk, y, m, q⟩ := p
  have HR := Lib.hid hrow
  unfold ndV at *
  simp only [ND.k, ND.p, ND.a, ND.t, ND.l] at *
  have n1 := cn.cell
  have n2 := cn.frozen
  have n3 := cn.lt
  have n4 : ¬ BN = w.heap.size := by omega
  have f3 := cf.lt
  have CF := Lib.hid cf
  have CN := Lib.hid cn
  have K0 := Lib.hid k0
  clear hrow cn cf k0
  by_cases hc : c = 64
  · subst hc
    rw [okX_full (by decide)]
    go_enter Tryd.func21, Tryd.ntmps21
    go_wp2
    obtain ⟨W2, hW2⟩ : ∃ x, x = (w.setCell ⟨BN, 0, none⟩ (.int .i64 65)).alloc (.cells #[.int .i64 0, .int .i64 pk, .string y, .string m, .string q, .bool a, .bool t, .slice ad l.length cp] 26) := ⟨_, rfl⟩
    have kx2 : KX (fun b => b = BN) w W2 := by rw [hW2]; exact (KX.set (X := fun b => b = BN) rfl w _).trans (KX.kp (Kp.alloc _ _))
    have gB : W2.heap[w.heap.size]? = some (.cells #[.int .i64 0, .int .i64 pk, .string y, .string m, .string q, .bool a, .bool t, .slice ad l.length cp] 26 (0, 0)) := by rw [hW2]; exact heap_at _ _ _ (by unfold World.setCell; simp)
    have cn2 : Cel W2 BN 3 (.int .i64 65) := by rw [hW2]; exact (CN.out.set _).kp (Kp.alloc _ _)
    have k02 : Kp w0 W2 := kx2.to K0.out (fun b h => by omega)
    rw [← hW2]
    go_ret
    exact ⟨65, rfl, kx2, cn2, fun h => by cases h⟩
  have hc2 : c ≤ 63 := by omega
  clear hc
  rw [okX_end hc2 (by omega)]
  have EL := Lib.hid (fun h => endN_leaf (n := .mk 0 ⟨pk, y, m, q⟩ a t l) (sp := saneP) h)
  generalize endN saneP (.mk 0 ⟨pk, y, m, q⟩ a t l) = be at *
  go_enter Tryd.func21, Tryd.ntmps21
  go_wp2_with fail
  obtain ⟨W2, hW2⟩ : ∃ x, x = (w.setCell ⟨BN, 0, none⟩ (.int .i64 (c + 1))).alloc (.cells #[.int .i64 0, .int .i64 pk, .string y, .string m, .string q, .bool a, .bool t, .slice ad l.length cp] 26) := ⟨_, rfl⟩
  have kx2 : KX (fun b => b = BN) w W2 := by rw [hW2]; exact (KX.set (X := fun b => b = BN) rfl w _).trans (KX.kp (Kp.alloc _ _))
  have gB : W2.heap[w.heap.size]? = some (.cells #[.int .i64 0, .int .i64 pk, .string y, .string m, .string q, .bool a, .bool t, .slice ad l.length cp] 26 (0, 0)) := by rw [hW2]; exact heap_at _ _ _ (by unfold World.setCell; simp)
  have cn2 : Cel W2 BN 3 (.int .i64 (c + 1)) := by rw [hW2]; exact (CN.out.set _).kp (Kp.alloc _ _)
  have k02 : Kp w0 W2 := kx2.to K0.out (fun b h => by omega)
  rw [← hW2]
  refine (CE.out _ k02).mono ?_
  rintro e w3 ⟨rfl, kk⟩
  have KX3 := Lib.hid (kx2.trans (KX.kp kk))
  have CN3 := Lib.hid (cn2.kp kk)
  clear hW2 kx2 gB cn2 k02 kk n1 n2
  go_wp2
  go_ret
  exact ⟨c + 1, rfl, KX3.out, CN3.out, fun h => by have := EL.out h; simp only [ND.l] at this; subst this; simp [cntN, cntL]⟩
set_option maxHeartbeats 16000000 in
set_option maxRecDepth 100000 in
theorem isx3_any (w0 : World) (BN BF : Nat) (h1 : BN ≠ BF) (b1 : w0.heap.size ≤ BN) (T : TabSH w0) (v : Value) (l : List ND)
    (hh : ∃ ad cp, v = .slice ad l.length cp ∧ (0 < l.length → ∃ b off, ad = some ⟨b, off, none⟩ ∧ ∀ i, i < l.length → ∃ vi, RowN w0 b (off + i * 8) (nth l i) vi ∧ NodesAt w0 vi (nth l i).l ∧ (fun v l => ∀ (k : Int) (p : PT) (a t : Bool) (j c : Int) (w : World), Kp w0 w → Cel w BN 3 (.int .i64 c) → Cel w BF 43 (.func (.func 21) #[] #[.pointer (some ⟨BN, 0, none⟩), .pointer (some ⟨BF, 0, none⟩)]) → 0 ≤ c ∧ c ≤ 64 → 0 ≤ j ∧ j ≤ 8 → cntL l ≤ 1000000 →
      Calls Tryd.prog 21 #[ndV (.mk k p a t l) v, .int .i64 j, .pointer (some ⟨BN, 0, none⟩), .pointer (some ⟨BF, 0, none⟩)] w fun e w' =>
        ∃ cv : Int, e = .returned (.bool (okX c j (.mk k p a t l))) ∧ KX (fun b => b = BN) w w' ∧ Cel w' BN 3 (.int .i64 cv) ∧ (okX c j (.mk k p a t l) = true → cv = c + (cntN (.mk k p a t l) : Int))) vi (nth l i).l)) :
    ∀ (k : Int) (p : PT) (a t : Bool) (j c : Int) (w : World), Kp w0 w → Cel w BN 3 (.int .i64 c) → Cel w BF 43 (.func (.func 21) #[] #[.pointer (some ⟨BN, 0, none⟩), .pointer (some ⟨BF, 0, none⟩)]) → (k == 0) = false ∧ (k == 1) = false ∧ (k == 2) = false → 0 ≤ c ∧ c ≤ 64 → 0 ≤ j ∧ j ≤ 8 → cntL l ≤ 1000000 →
      Calls Tryd.prog 21 #[ndV (.mk k p a t l) v, .int .i64 j, .pointer (some ⟨BN, 0, none⟩), .pointer (some ⟨BF, 0, none⟩)] w fun e w' =>
        ∃ cv : Int, e = .returned (.bool (okX c j (.mk k p a t l))) ∧ KX (fun b => b = BN) w w' ∧ Cel w' BN 3 (.int .i64 cv) ∧ (okX c j (.mk k p a t l) = true → cv = c + (cntN (.mk k p a t l) : Int)) := by
  obtain ⟨ad, cp, rfl, hrow⟩ := hh
  intro k p a t j c w k0 cn cf ⟨e0, e1, e2⟩ ⟨c0, c9⟩ ⟨j0, j9⟩ hl
  have ll := len_cntL l
  have CE := Lib.hid (fun w1 (q : Kp w0 w1) => end_any (.mk k p a t l) (.slice ad l.length cp) w1 ⟨_, _, rfl⟩ (T.kp q))
  have CB := Lib.hid (fun w1 => bare_any (.mk k p a t l) (.slice ad l.length cp) w1)
  obtain ⟨pk, y, m, q⟩ := p
  have HR := Lib.hid hrow
  unfold ndV at *
  simp only [ND.k, ND.p, ND.a, ND.t, ND.l] at *
  have n1 := cn.cell
  have n2 := cn.frozen
  have n3 := cn.lt
  have n4 : ¬ BN = w.heap.size := by omega
  have f3 := cf.lt
  have CF := Lib.hid cf
  have CN := Lib.hid cn
  have K0 := Lib.hid k0
  clear hrow cn cf k0
  rw [okX_other e0 e1 e2]
  by_cases hc : c = 64
  · subst hc
    go_enter Tryd.func21, Tryd.ntmps21
    go_wp2
    obtain ⟨W2, hW2⟩ : ∃ x, x = (w.setCell ⟨BN, 0, none⟩ (.int .i64 65)).alloc (.cells #[.int .i64 k, .int .i64 pk, .string y, .string m, .string q, .bool a, .bool t, .slice ad l.length cp] 26) := ⟨_, rfl⟩
    have kx2 : KX (fun b => b = BN) w W2 := by rw [hW2]; exact (KX.set (X := fun b => b = BN) rfl w _).trans (KX.kp (Kp.alloc _ _))
    have gB : W2.heap[w.heap.size]? = some (.cells #[.int .i64 k, .int .i64 pk, .string y, .string m, .string q, .bool a, .bool t, .slice ad l.length cp] 26 (0, 0)) := by rw [hW2]; exact heap_at _ _ _ (by unfold World.setCell; simp)
    have cn2 : Cel W2 BN 3 (.int .i64 65) := by rw [hW2]; exact (CN.out.set _).kp (Kp.alloc _ _)
    have k02 : Kp w0 W2 := kx2.to K0.out (fun b h => by omega)
    rw [← hW2]
    go_ret
    exact ⟨65, rfl, kx2, cn2, fun h => by cases h⟩
  have hc2 : c ≤ 63 := by omega
  clear hc
  go_enter Tryd.func21, Tryd.ntmps21
  go_wp2
  obtain ⟨W2, hW2⟩ : ∃ x, x = (w.setCell ⟨BN, 0, none⟩ (.int .i64 (c + 1))).alloc (.cells #[.int .i64 k, .int .i64 pk, .string y, .string m, .string q, .bool a, .bool t, .slice ad l.length cp] 26) := ⟨_, rfl⟩
  have kx2 : KX (fun b => b = BN) w W2 := by rw [hW2]; exact (KX.set (X := fun b => b = BN) rfl w _).trans (KX.kp (Kp.alloc _ _))
  have gB : W2.heap[w.heap.size]? = some (.cells #[.int .i64 k, .int .i64 pk, .string y, .string m, .string q, .bool a, .bool t, .slice ad l.length cp] 26 (0, 0)) := by rw [hW2]; exact heap_at _ _ _ (by unfold World.setCell; simp)
  have cn2 : Cel W2 BN 3 (.int .i64 (c + 1)) := by rw [hW2]; exact (CN.out.set _).kp (Kp.alloc _ _)
  have k02 : Kp w0 W2 := kx2.to K0.out (fun b h => by omega)
  rw [← hW2]
  go_ret
  exact ⟨c + 1, rfl, kx2, cn2, fun h => by cases h⟩
set_option maxHeartbeats 16000000 in
set_option maxRecDepth 100000 in
theorem isx1_any (w0 : World) (BN BF : Nat) (h1 : BN ≠ BF) (b1 : w0.heap.size ≤ BN) (T : TabSH w0) (v : Value) (l : List ND)
    (hh : ∃ ad cp, v = .slice ad l.length cp ∧ (0 < l.length → ∃ b off, ad = some ⟨b, off, none⟩ ∧ ∀ i, i < l.length → ∃ vi, RowN w0 b (off + i * 8) (nth l i) vi ∧ NodesAt w0 vi (nth l i).l ∧ (fun v l => ∀ (k : Int) (p : PT) (a t : Bool) (j c : Int) (w : World), Kp w0 w → Cel w BN 3 (.int .i64 c) → Cel w BF 43 (.func (.func 21) #[] #[.pointer (some ⟨BN, 0, none⟩), .pointer (some ⟨BF, 0, none⟩)]) → 0 ≤ c ∧ c ≤ 64 → 0 ≤ j ∧ j ≤ 8 → cntL l ≤ 1000000 →
      Calls Tryd.prog 21 #[ndV (.mk k p a t l) v, .int .i64 j, .pointer (some ⟨BN, 0, none⟩), .pointer (some ⟨BF, 0, none⟩)] w fun e w' =>
        ∃ cv : Int, e = .returned (.bool (okX c j (.mk k p a t l))) ∧ KX (fun b => b = BN) w w' ∧ Cel w' BN 3 (.int .i64 cv) ∧ (okX c j (.mk k p a t l) = true → cv = c + (cntN (.mk k p a t l) : Int))) vi (nth l i).l)) :
    ∀ (p : PT) (a t : Bool) (j c : Int) (w : World), Kp w0 w → Cel w BN 3 (.int .i64 c) → Cel w BF 43 (.func (.func 21) #[] #[.pointer (some ⟨BN, 0, none⟩), .pointer (some ⟨BF, 0, none⟩)]) → 0 ≤ c ∧ c ≤ 64 → 0 ≤ j ∧ j ≤ 8 → cntL l ≤ 1000000 →
      Calls Tryd.prog 21 #[ndV (.mk 1 p a t l) v, .int .i64 j, .pointer (some ⟨BN, 0, none⟩), .pointer (some ⟨BF, 0, none⟩)] w fun e w' =>
        ∃ cv : Int, e = .returned (.bool (okX c j (.mk 1 p a t l))) ∧ KX (fun b => b = BN) w w' ∧ Cel w' BN 3 (.int .i64 cv) ∧ (okX c j (.mk 1 p a t l) = true → cv = c + (cntN (.mk 1 p a t l) : Int)) := by
  obtain ⟨ad, cp, rfl, hrow⟩ := hh
  intro p a t j c w k0 cn cf ⟨c0, c9⟩ ⟨j0, j9⟩ hl
  have ll := len_cntL l
  have CE := Lib.hid (fun w1 (q : Kp w0 w1) => end_any (.mk 1 p a t l) (.slice ad l.length cp) w1 ⟨_, _, rfl⟩ (T.kp q))
  have CB := Lib.hid (fun w1 => bare_any (.mk 1 p a t l) (.slice ad l.length cp) w1)
  obtain ⟨pk, y, m, q⟩ := p
  have HR := Lib.hid hrow
  unfold ndV at *
  simp only [ND.k, ND.p, ND.a, ND.t, ND.l] at *
  have n1 := cn.cell
  have n2 := cn.frozen
  have n3 := cn.lt
  have n4 : ¬ BN = w.heap.size := by omega
  have f3 := cf.lt
  have CF := Lib.hid cf
  have CN := Lib.hid cn
  have K0 := Lib.hid k0
  clear hrow cn cf k0
  by_cases hc : c = 64
  · subst hc
    rw [okX_full (by decide)]
    go_enter Tryd.func21, Tryd.ntmps21
    go_wp2
    obtain ⟨W2, hW2⟩ : ∃ x, x = (w.setCell ⟨BN, 0, none⟩ (.int .i64 65)).alloc (.cells #[.int .i64 1, .int .i64 pk, .string y, .string m, .string q, .bool a, .bool t, .slice ad l.length cp] 26) := ⟨_, rfl⟩
    have kx2 : KX (fun b => b = BN) w W2 := by rw [hW2]; exact (KX.set (X := fun b => b = BN) rfl w _).trans (KX.kp (Kp.alloc _ _))
    have gB : W2.heap[w.heap.size]? = some (.cells #[.int .i64 1, .int .i64 pk, .string y, .string m, .string q, .bool a, .bool t, .slice ad l.length cp] 26 (0, 0)) := by rw [hW2]; exact heap_at _ _ _ (by unfold World.setCell; simp)
    have cn2 : Cel W2 BN 3 (.int .i64 65) := by rw [hW2]; exact (CN.out.set _).kp (Kp.alloc _ _)
    have k02 : Kp w0 W2 := kx2.to K0.out (fun b h => by omega)
    rw [← hW2]
    go_ret
    exact ⟨65, rfl, kx2, cn2, fun h => by cases h⟩
  have hc2 : c ≤ 63 := by omega
  clear hc
  rw [okX_span (by omega)]
  generalize bareN (.mk 1 ⟨pk, y, m, q⟩ a t l) = bb at *
  cases bb with
  | false =>
    rw [Bool.false_and]
    go_enter Tryd.func21, Tryd.ntmps21
    go_wp2_with fail
    obtain ⟨W2, hW2⟩ : ∃ x, x = ((w.setCell ⟨BN, 0, none⟩ (.int .i64 (c + 1))).setCell ⟨BN, 0, none⟩ (.int .i64 (c + 1 + (l.length : Int)))).alloc (.cells #[.int .i64 1, .int .i64 pk, .string y, .string m, .string q, .bool a, .bool t, .slice ad l.length cp] 26) := ⟨_, rfl⟩
    have kx2 : KX (fun b => b = BN) w W2 := by rw [hW2]; exact ((KX.set (X := fun b => b = BN) rfl w _).trans (KX.set (X := fun b => b = BN) rfl _ _)).trans (KX.kp (Kp.alloc _ _))
    have gB : W2.heap[w.heap.size]? = some (.cells #[.int .i64 1, .int .i64 pk, .string y, .string m, .string q, .bool a, .bool t, .slice ad l.length cp] 26 (0, 0)) := by rw [hW2]; exact heap_at _ _ _ (by unfold World.setCell; simp)
    have cn2 : Cel W2 BN 3 (.int .i64 (c + 1 + (l.length : Int))) := by rw [hW2]; exact ((CN.out.set _).set _).kp (Kp.alloc _ _)
    have k02 : Kp w0 W2 := kx2.to K0.out (fun b h => by omega)
    rw [← hW2]
    refine (CB.out _).mono ?_
    rintro e w3 ⟨rfl, kk⟩
    have KX3 := Lib.hid (kx2.trans (KX.kp kk))
    have CN3 := Lib.hid (cn2.kp kk)
    have K03 := Lib.hid (k02.trans kk)
    obtain ⟨x0, x1, x2, x3, x4, x5, x6, x7⟩ := row8 (heap_block kk gB)
    clear hW2 kx2 gB cn2 k02 kk n1 n2 x0 x1 x2 x3 x4 x5 x6
    go_wp2
    go_ret
    exact ⟨c + 1 + (l.length : Int), rfl, KX3.out, CN3.out, fun h => by cases h⟩
  | true =>
    rw [Bool.true_and]
    by_cases hl2 : l.length = 2
    · obtain ⟨x, z, rfl⟩ := two_of hl2
      obtain ⟨bk, off, rfl, hall⟩ := HR.out (by simp)
      obtain ⟨vx, rx, sx, _⟩ := hall 0 (by simp)
      obtain ⟨vz, rz, sz, _⟩ := hall 1 (by simp)
      rw [show nth [x, z] 0 = x from rfl] at rx sx
      rw [show nth [x, z] 1 = z from rfl] at rz sz
      have FIN : endN saneP x = true → endN saneP z = true → cntL [x, z] = 2 := fun a b => two_cnt a b
      have FINH := Lib.hid FIN
      have CX := Lib.hid (fun w1 (q : Kp w0 w1) => end_any x vx w1 sx.slice (T.kp q))
      have CZ := Lib.hid (fun w1 (q : Kp w0 w1) => end_any z vz w1 sz.slice (T.kp q))
      simp only [twoN]
      generalize endN saneP x = bx at *
      generalize endN saneP z = bz at *
      obtain ⟨adx, cpx, rfl⟩ := sx.slice
      obtain ⟨adz, cpz, rfl⟩ := sz.slice
      have RX := Lib.hid rx
      have RZ := Lib.hid rz
      have hbk := World.block_lt_of_cell? _ _ rx.1
      obtain ⟨k1, ⟨pk1, y1, m1, q1⟩, a1, t1, l1⟩ := x
      obtain ⟨k2, ⟨pk2, y2, m2, q2⟩, a2, t2, l2⟩ := z
      unfold RowN at RX RZ
      unfold ndV at CX CZ
      simp only [ND.k, ND.p, ND.a, ND.t, ND.l, List.length_cons, List.length_nil, Nat.reduceAdd, Nat.zero_mul, Nat.add_zero, Nat.one_mul] at *
      clear rx rz sx sz hall FIN HR
      obtain ⟨b3, hb3⟩ : ∃ b, decide (c + 3 ≤ 64) = b := ⟨_, rfl⟩
      have hb4 : decide (c + 1 + 2 ≤ 64) = b3 := by rw [← hb3]; congr 1; apply propext; omega
      rw [hb3]
      clear hb3
      obtain ⟨res, hres⟩ : ∃ r, (bx && bz && b3) = r := ⟨_, rfl⟩
      rw [hres]
      have RES := Lib.hid hres
      clear hres
      go_enter Tryd.func21, Tryd.ntmps21
      go_wp2_with fail
      obtain ⟨W2, hW2⟩ : ∃ x, x = ((w.setCell ⟨BN, 0, none⟩ (.int .i64 (c + 1))).setCell ⟨BN, 0, none⟩ (.int .i64 (c + 1 + 2))).alloc (.cells #[.int .i64 1, .int .i64 pk, .string y, .string m, .string q, .bool a, .bool t, .slice (some ⟨bk, off, none⟩) 2 cp] 26) := ⟨_, rfl⟩
      have kx2 : KX (fun b => b = BN) w W2 := by rw [hW2]; exact ((KX.set (X := fun b => b = BN) rfl w _).trans (KX.set (X := fun b => b = BN) rfl _ _)).trans (KX.kp (Kp.alloc _ _))
      have gB : W2.heap[w.heap.size]? = some (.cells #[.int .i64 1, .int .i64 pk, .string y, .string m, .string q, .bool a, .bool t, .slice (some ⟨bk, off, none⟩) 2 cp] 26 (0, 0)) := by rw [hW2]; exact heap_at _ _ _ (by unfold World.setCell; simp)
      have cn2 : Cel W2 BN 3 (.int .i64 (c + 1 + 2)) := by rw [hW2]; exact ((CN.out.set _).set _).kp (Kp.alloc _ _)
      have k02 : Kp w0 W2 := kx2.to K0.out (fun b h => by omega)
      rw [← hW2]
      refine (CB.out _).mono ?_
      rintro e w3 ⟨rfl, kk⟩
      have KX3 := Lib.hid (kx2.trans (KX.kp kk))
      have CN3 := Lib.hid (cn2.kp kk)
      have K03 := Lib.hid (k02.trans kk)
      obtain ⟨x0, x1, x2, x3, x4, x5, x6, x7⟩ := row8 (heap_block kk gB)
      clear hW2 kx2 gB cn2 k02 kk n1 n2 x0 x1 x2 x3 x4 x5 x6
      have UX := fun w1 (q : Kp w0 w1) => RX.out
      have up : ∀ (w1 : World) (o : Nat) (x : Value), Kp w0 w1 → w0.cell? ⟨bk, o, none⟩ = some x → w1.cell? ⟨bk, o, none⟩ = some x := fun w1 o x q h => cell_up q h
      obtain ⟨g0, g1, g2, g3, g4, g5, g6, g7⟩ := RX.out
      have g0 := up _ _ _ K03.out g0
      have g1 := up _ _ _ K03.out g1
      have g2 := up _ _ _ K03.out g2
      have g3 := up _ _ _ K03.out g3
      have g4 := up _ _ _ K03.out g4
      have g5 := up _ _ _ K03.out g5
      have g6 := up _ _ _ K03.out g6
      have g7 := up _ _ _ K03.out g7
      clear UX
      go_wp2_with fail
      refine (CX.out _ K03.out).mono ?_
      rintro e w4 ⟨rfl, kk⟩
      have KX4 := Lib.hid (KX3.out.trans (KX.kp kk))
      have CN4 := Lib.hid (CN3.out.kp kk)
      have K04 := Lib.hid (K03.out.trans kk)
      have x7 := cell_up kk x7
      clear g0 g1 g2 g3 g4 g5 g6 g7
      cases bx with
      | false =>
        have hr := RES.out
        simp only [Bool.false_and] at hr
        subst hr
        go_wp2
        go_ret
        exact ⟨c + 1 + 2, rfl, KX4.out, CN4.out, fun h => by cases h⟩
      | true =>
        obtain ⟨g0, g1, g2, g3, g4, g5, g6, g7⟩ := RZ.out
        have g0 := up _ _ _ K04.out g0
        have g1 := up _ _ _ K04.out g1
        have g2 := up _ _ _ K04.out g2
        have g3 := up _ _ _ K04.out g3
        have g4 := up _ _ _ K04.out g4
        have g5 := up _ _ _ K04.out g5
        have g6 := up _ _ _ K04.out g6
        have g7 := up _ _ _ K04.out g7
        clear kk
        go_wp2_with fail
        refine (CZ.out _ K04.out).mono ?_
        rintro e w5 ⟨rfl, kk⟩
        have KX5 := Lib.hid (KX4.out.trans (KX.kp kk))
        have CN5 := Lib.hid (CN4.out.kp kk)
        have y0 := CN5.out.cell
        clear g0 g1 g2 g3 g4 g5 g6 g7 kk
        cases bz with
        | false =>
          have hr := RES.out
          simp only [Bool.true_and, Bool.false_and] at hr
          subst hr
          go_wp2
          go_ret
          exact ⟨c + 1 + 2, rfl, KX5.out, CN5.out, fun h => by cases h⟩
        | true =>
          have hr := RES.out
          simp only [Bool.true_and] at hr
          subst hr
          go_wp2
          go_ret
          exact ⟨c + 1 + 2, rfl, KX5.out, CN5.out, fun h => by have := FINH.out (by first | rfl | trivial) (by first | rfl | trivial); simp only [cntN]; rw [this]; omega⟩
    · have ht : twoN saneP l = false := two_no hl2
      have ql : ((l.length : Int) == 2) = false := beq_eq_false_iff_ne.2 (by omega)
      rw [ht, Bool.false_and]
      go_enter Tryd.func21, Tryd.ntmps21
      go_wp2_with fail
      obtain ⟨W2, hW2⟩ : ∃ x, x = ((w.setCell ⟨BN, 0, none⟩ (.int .i64 (c + 1))).setCell ⟨BN, 0, none⟩ (.int .i64 (c + 1 + (l.length : Int)))).alloc (.cells #[.int .i64 1, .int .i64 pk, .string y, .string m, .string q, .bool a, .bool t, .slice ad l.length cp] 26) := ⟨_, rfl⟩
      have kx2 : KX (fun b => b = BN) w W2 := by rw [hW2]; exact ((KX.set (X := fun b => b = BN) rfl w _).trans (KX.set (X := fun b => b = BN) rfl _ _)).trans (KX.kp (Kp.alloc _ _))
      have gB : W2.heap[w.heap.size]? = some (.cells #[.int .i64 1, .int .i64 pk, .string y, .string m, .string q, .bool a, .bool t, .slice ad l.length cp] 26 (0, 0)) := by rw [hW2]; exact heap_at _ _ _ (by unfold World.setCell; simp)
      have cn2 : Cel W2 BN 3 (.int .i64 (c + 1 + (l.length : Int))) := by rw [hW2]; exact ((CN.out.set _).set _).kp (Kp.alloc _ _)
      have k02 : Kp w0 W2 := kx2.to K0.out (fun b h => by omega)
      rw [← hW2]
      refine (CB.out _).mono ?_
      rintro e w3 ⟨rfl, kk⟩
      have KX3 := Lib.hid (kx2.trans (KX.kp kk))
      have CN3 := Lib.hid (cn2.kp kk)
      have K03 := Lib.hid (k02.trans kk)
      obtain ⟨x0, x1, x2, x3, x4, x5, x6, x7⟩ := row8 (heap_block kk gB)
      clear hW2 kx2 gB cn2 k02 kk n1 n2 x0 x1 x2 x3 x4 x5 x6
      go_wp2
      go_ret
      exact ⟨c + 1 + (l.length : Int), rfl, KX3.out, CN3.out, fun h => by cases h⟩
set_option maxHeartbeats 16000000 in
set_option maxRecDepth 100000 in
theorem isx2_any (w0 : World) (BN BF : Nat) (h1 : BN ≠ BF) (b1 : w0.heap.size ≤ BN) (T : TabSH w0) (v : Value) (l : List ND)
    (hh : ∃ ad cp, v = .slice ad l.length cp ∧ (0 < l.length → ∃ b off, ad = some ⟨b, off, none⟩ ∧ ∀ i, i < l.length → ∃ vi, RowN w0 b (off + i * 8) (nth l i) vi ∧ NodesAt w0 vi (nth l i).l ∧ (fun v l => ∀ (k : Int) (p : PT) (a t : Bool) (j c : Int) (w : World), Kp w0 w → Cel w BN 3 (.int .i64 c) → Cel w BF 43 (.func (.func 21) #[] #[.pointer (some ⟨BN, 0, none⟩), .pointer (some ⟨BF, 0, none⟩)]) → 0 ≤ c ∧ c ≤ 64 → 0 ≤ j ∧ j ≤ 8 → cntL l ≤ 1000000 →
      Calls Tryd.prog 21 #[ndV (.mk k p a t l) v, .int .i64 j, .pointer (some ⟨BN, 0, none⟩), .pointer (some ⟨BF, 0, none⟩)] w fun e w' =>
        ∃ cv : Int, e = .returned (.bool (okX c j (.mk k p a t l))) ∧ KX (fun b => b = BN) w w' ∧ Cel w' BN 3 (.int .i64 cv) ∧ (okX c j (.mk k p a t l) = true → cv = c + (cntN (.mk k p a t l) : Int))) vi (nth l i).l)) :
    ∀ (p : PT) (a t : Bool) (j c : Int) (w : World), Kp w0 w → Cel w BN 3 (.int .i64 c) → Cel w BF 43 (.func (.func 21) #[] #[.pointer (some ⟨BN, 0, none⟩), .pointer (some ⟨BF, 0, none⟩)]) → 0 ≤ c ∧ c ≤ 64 → 0 ≤ j ∧ j ≤ 8 → cntL l ≤ 1000000 →
      Calls Tryd.prog 21 #[ndV (.mk 2 p a t l) v, .int .i64 j, .pointer (some ⟨BN, 0, none⟩), .pointer (some ⟨BF, 0, none⟩)] w fun e w' =>
        ∃ cv : Int, e = .returned (.bool (okX c j (.mk 2 p a t l))) ∧ KX (fun b => b = BN) w w' ∧ Cel w' BN 3 (.int .i64 cv) ∧ (okX c j (.mk 2 p a t l) = true → cv = c + (cntN (.mk 2 p a t l) : Int)) := by
  obtain ⟨ad, cp, rfl, hrow⟩ := hh
  intro p a t j c w k0 cn cf ⟨c0, c9⟩ ⟨j0, j9⟩ hl
  have ll := len_cntL l
  have CE := Lib.hid (fun w1 (q : Kp w0 w1) => end_any (.mk 2 p a t l) (.slice ad l.length cp) w1 ⟨_, _, rfl⟩ (T.kp q))
  have CB := Lib.hid (fun w1 => bare_any (.mk 2 p a t l) (.slice ad l.length cp) w1)
  obtain ⟨pk, y, m, q⟩ := p
  have HR := Lib.hid hrow
  unfold ndV at *
  simp only [ND.k, ND.p, ND.a, ND.t, ND.l] at *
  have n1 := cn.cell
  have n2 := cn.frozen
  have n3 := cn.lt
  have n4 : ¬ BN = w.heap.size := by omega
  have f3 := cf.lt
  have CF := Lib.hid cf
  have CN := Lib.hid cn
  have K0 := Lib.hid k0
  clear hrow cn cf k0
  have OL := Lib.hid (okX_list (c := c) (j := j) (p := ⟨pk, y, m, q⟩) (a := a) (t := t) (l := l))
  have OE := Lib.hid (fun h i hi => okX_elem (c := c) (j := j) (p := ⟨pk, y, m, q⟩) (a := a) (t := t) (l := l) h (i := i) hi)
  have OA := Lib.hid (okX_all (c := c) (j := j) (p := ⟨pk, y, m, q⟩) (a := a) (t := t) (l := l))
  have OC := Lib.hid (show (cntN (.mk 2 ⟨pk, y, m, q⟩ a t l) : Int) = (cntL l : Int) + 1 from by simp only [cntN]; omega)
  by_cases hc : c = 64
  · subst hc
    rw [okX_full (by decide)]
    go_enter Tryd.func21, Tryd.ntmps21
    go_wp2
    obtain ⟨W2, hW2⟩ : ∃ x, x = (w.setCell ⟨BN, 0, none⟩ (.int .i64 65)).alloc (.cells #[.int .i64 2, .int .i64 pk, .string y, .string m, .string q, .bool a, .bool t, .slice ad l.length cp] 26) := ⟨_, rfl⟩
    have kx2 : KX (fun b => b = BN) w W2 := by rw [hW2]; exact (KX.set (X := fun b => b = BN) rfl w _).trans (KX.kp (Kp.alloc _ _))
    have gB : W2.heap[w.heap.size]? = some (.cells #[.int .i64 2, .int .i64 pk, .string y, .string m, .string q, .bool a, .bool t, .slice ad l.length cp] 26 (0, 0)) := by rw [hW2]; exact heap_at _ _ _ (by unfold World.setCell; simp)
    have cn2 : Cel W2 BN 3 (.int .i64 65) := by rw [hW2]; exact (CN.out.set _).kp (Kp.alloc _ _)
    have k02 : Kp w0 W2 := kx2.to K0.out (fun b h => by omega)
    rw [← hW2]
    go_ret
    exact ⟨65, rfl, kx2, cn2, fun h => by cases h⟩
  have hc2 : c ≤ 63 := by omega
  clear hc
  generalize bareN (.mk 2 ⟨pk, y, m, q⟩ a t l) = bb at *
  generalize okX c j (.mk 2 ⟨pk, y, m, q⟩ a t l) = ok at *
  generalize (cntN (.mk 2 ⟨pk, y, m, q⟩ a t l) : Int) = cm at *
  have isF : ∀ {P : Prop}, (ok = true → P) → ¬ P → ok = false := fun {P} h n => by
    cases ok with
    | false => rfl
    | true => exact absurd (h rfl) n
  cases bb with
  | false =>
    obtain rfl : ok = false := isF OL.out (fun h => by cases h.1)
    clear isF
    go_enter Tryd.func21, Tryd.ntmps21
    go_wp2_with fail
    obtain ⟨W2, hW2⟩ : ∃ x, x = (w.setCell ⟨BN, 0, none⟩ (.int .i64 (c + 1))).alloc (.cells #[.int .i64 2, .int .i64 pk, .string y, .string m, .string q, .bool a, .bool t, .slice ad l.length cp] 26) := ⟨_, rfl⟩
    have kx2 : KX (fun b => b = BN) w W2 := by rw [hW2]; exact (KX.set (X := fun b => b = BN) rfl w _).trans (KX.kp (Kp.alloc _ _))
    have gB : W2.heap[w.heap.size]? = some (.cells #[.int .i64 2, .int .i64 pk, .string y, .string m, .string q, .bool a, .bool t, .slice ad l.length cp] 26 (0, 0)) := by rw [hW2]; exact heap_at _ _ _ (by unfold World.setCell; simp)
    have cn2 : Cel W2 BN 3 (.int .i64 (c + 1)) := by rw [hW2]; exact (CN.out.set _).kp (Kp.alloc _ _)
    have k02 : Kp w0 W2 := kx2.to K0.out (fun b h => by omega)
    rw [← hW2]
    refine (CB.out _).mono ?_
    rintro e w3 ⟨rfl, kk⟩
    have KX3 := Lib.hid (kx2.trans (KX.kp kk))
    have CN3 := Lib.hid (cn2.kp kk)
    have K03 := Lib.hid (k02.trans kk)
    obtain ⟨x0, x1, x2, x3, x4, x5, x6, x7⟩ := row8 (heap_block kk gB)
    clear hW2 kx2 gB cn2 k02 kk n1 n2 x0 x1 x2 x3 x4 x5 x6
    go_wp2
    go_ret
    exact ⟨c + 1, rfl, KX3.out, CN3.out, fun h => by cases h⟩
  | true =>
    by_cases hl0 : l.length = 0
    · obtain rfl : ok = false := isF OL.out (fun h => h.2.1 (List.length_eq_zero_iff.1 hl0))
      have q1 : ((l.length : Int) == 0) = true := by rw [hl0]; rfl
      clear isF hl0
      go_enter Tryd.func21, Tryd.ntmps21
      go_wp2_with fail
      obtain ⟨W2, hW2⟩ : ∃ x, x = (w.setCell ⟨BN, 0, none⟩ (.int .i64 (c + 1))).alloc (.cells #[.int .i64 2, .int .i64 pk, .string y, .string m, .string q, .bool a, .bool t, .slice ad l.length cp] 26) := ⟨_, rfl⟩
      have kx2 : KX (fun b => b = BN) w W2 := by rw [hW2]; exact (KX.set (X := fun b => b = BN) rfl w _).trans (KX.kp (Kp.alloc _ _))
      have gB : W2.heap[w.heap.size]? = some (.cells #[.int .i64 2, .int .i64 pk, .string y, .string m, .string q, .bool a, .bool t, .slice ad l.length cp] 26 (0, 0)) := by rw [hW2]; exact heap_at _ _ _ (by unfold World.setCell; simp)
      have cn2 : Cel W2 BN 3 (.int .i64 (c + 1)) := by rw [hW2]; exact (CN.out.set _).kp (Kp.alloc _ _)
      have k02 : Kp w0 W2 := kx2.to K0.out (fun b h => by omega)
      rw [← hW2]
      refine (CB.out _).mono ?_
      rintro e w3 ⟨rfl, kk⟩
      have KX3 := Lib.hid (kx2.trans (KX.kp kk))
      have CN3 := Lib.hid (cn2.kp kk)
      have K03 := Lib.hid (k02.trans kk)
      obtain ⟨x0, x1, x2, x3, x4, x5, x6, x7⟩ := row8 (heap_block kk gB)
      clear hW2 kx2 gB cn2 k02 kk n1 n2 x0 x1 x2 x3 x4 x5 x6
      go_wp2
      go_ret
      exact ⟨c + 1, rfl, KX3.out, CN3.out, fun h => by cases h⟩
    · have q1 : ((l.length : Int) == 0) = false := beq_eq_false_iff_ne.2 (by omega)
      by_cases hj : j = 8
      · obtain rfl : ok = false := isF OL.out (fun h => by have := h.2.2; omega)
        subst hj
        clear isF
        go_enter Tryd.func21, Tryd.ntmps21
        go_wp2_with fail
        obtain ⟨W2, hW2⟩ : ∃ x, x = (w.setCell ⟨BN, 0, none⟩ (.int .i64 (c + 1))).alloc (.cells #[.int .i64 2, .int .i64 pk, .string y, .string m, .string q, .bool a, .bool t, .slice ad l.length cp] 26) := ⟨_, rfl⟩
        have kx2 : KX (fun b => b = BN) w W2 := by rw [hW2]; exact (KX.set (X := fun b => b = BN) rfl w _).trans (KX.kp (Kp.alloc _ _))
        have gB : W2.heap[w.heap.size]? = some (.cells #[.int .i64 2, .int .i64 pk, .string y, .string m, .string q, .bool a, .bool t, .slice ad l.length cp] 26 (0, 0)) := by rw [hW2]; exact heap_at _ _ _ (by unfold World.setCell; simp)
        have cn2 : Cel W2 BN 3 (.int .i64 (c + 1)) := by rw [hW2]; exact (CN.out.set _).kp (Kp.alloc _ _)
        have k02 : Kp w0 W2 := kx2.to K0.out (fun b h => by omega)
        rw [← hW2]
        refine (CB.out _).mono ?_
        rintro e w3 ⟨rfl, kk⟩
        have KX3 := Lib.hid (kx2.trans (KX.kp kk))
        have CN3 := Lib.hid (cn2.kp kk)
        have K03 := Lib.hid (k02.trans kk)
        obtain ⟨x0, x1, x2, x3, x4, x5, x6, x7⟩ := row8 (heap_block kk gB)
        clear hW2 kx2 gB cn2 k02 kk n1 n2 x0 x1 x2 x3 x4 x5 x6
        go_wp2
        go_ret
        exact ⟨c + 1, rfl, KX3.out, CN3.out, fun h => by cases h⟩
      · have q2 : (j == 8) = false := beq_eq_false_iff_ne.2 hj
        have HOA := Lib.hid (fun a b => OA.out rfl (fun e => hl0 (by rw [e]; rfl)) (by omega) a b)
        have HF := Lib.hid (fun i (hi : i < l.length) (h : okX (c + 1 + (cntL (l.take i) : Int)) (j + 1) (nth l i) = false) => isF (P := False) (fun e => by have := OE.out e i hi; rw [h] at this; cases this) id)
        clear isF
        go_enter Tryd.func21, Tryd.ntmps21
        go_wp2_with fail
        obtain ⟨W2, hW2⟩ : ∃ x, x = (w.setCell ⟨BN, 0, none⟩ (.int .i64 (c + 1))).alloc (.cells #[.int .i64 2, .int .i64 pk, .string y, .string m, .string q, .bool a, .bool t, .slice ad l.length cp] 26) := ⟨_, rfl⟩
        have kx2 : KX (fun b => b = BN) w W2 := by rw [hW2]; exact (KX.set (X := fun b => b = BN) rfl w _).trans (KX.kp (Kp.alloc _ _))
        have gB : W2.heap[w.heap.size]? = some (.cells #[.int .i64 2, .int .i64 pk, .string y, .string m, .string q, .bool a, .bool t, .slice ad l.length cp] 26 (0, 0)) := by rw [hW2]; exact heap_at _ _ _ (by unfold World.setCell; simp)
        have cn2 : Cel W2 BN 3 (.int .i64 (c + 1)) := by rw [hW2]; exact (CN.out.set _).kp (Kp.alloc _ _)
        have k02 : Kp w0 W2 := kx2.to K0.out (fun b h => by omega)
        rw [← hW2]
        refine (CB.out _).mono ?_
        rintro e w3 ⟨rfl, kk⟩
        have KX3 := Lib.hid (kx2.trans (KX.kp kk))
        have CN3 := Lib.hid (cn2.kp kk)
        have K03 := Lib.hid (k02.trans kk)
        obtain ⟨x0, x1, x2, x3, x4, x5, x6, x7⟩ := row8 (heap_block kk gB)
        clear hW2 kx2 gB cn2 k02 kk n1 n2 x0 x1 x2 x3 x4 x5 x6
        go_wp2
        go_loopw [70] (fun i ws => ∃ n : Nat, n ≤ l.length ∧ i = .int .i64 n ∧ Hid (KX (fun b => b = BN) w ws) ∧ Hid (Cel ws BN 3 (.int .i64 (c + 1 + (cntL (l.take n) : Int)))) ∧ Hid (c + 1 + (cntL (l.take n) : Int) ≤ 64 ∧ ∀ i, i < n → okX (c + 1 + (cntL (l.take i) : Int)) (j + 1) (nth l i) = true)) (fun i _ => l.length - (intOf i).toNat)
        case atStart => exact ⟨0, Nat.zero_le _, rfl, KX3, Lib.hid (by simpa [cntL] using CN3.out), Lib.hid ⟨by simp [cntL]; omega, fun i hi => by omega⟩⟩
        case round =>
          obtain ⟨n, hn, rfl, KL, LN, LO⟩ := hrel
          by_cases hlt : n < l.length
          · obtain ⟨bk, off, rfl, hall⟩ := HR.out (by omega)
            obtain ⟨vi, hrow, hsub, ih⟩ := hall n hlt
            have hb := World.block_lt_of_cell? _ _ hrow.1
            simp only at hb
            have kw0 : Kp w0 wr := KL.out.to K0.out (fun b h => by omega)
            obtain ⟨e0, e1, e2, e3, e4, e5, e6, e7⟩ := hrow.kp kw0
            have KW0 := Lib.hid kw0
            have ca := cnt_at hlt
            have ct := cntL_take hlt
            have HFn := Lib.hid (HF.out n hlt)
            have LB := LO.out.1
            have LA := Lib.hid LO.out.2
            have LA := Lib.hid LO.out.2
            clear hall
            obtain ⟨x, hx⟩ : ∃ x, nth l n = x := ⟨_, rfl⟩
            rw [hx] at e0 e1 e2 e3 e4 e5 e6 ca ct HFn ih hsub hrow
            have NTH := Lib.hid hx
            clear hx
            obtain ⟨k1, ⟨pk1, y1, m1, q1'⟩, a1, t1, l1⟩ := x
            (try simp only [ND.k, ND.p, ND.a, ND.t, ND.l] at e0 e1 e2 e3 e4 e5 e6 ih hsub)
            obtain ⟨ad1, cp1, rfl⟩ := hsub.slice
            have IH := Lib.hid (ih k1 ⟨pk1, y1, m1, q1'⟩ a1 t1 (j + 1))
            have hcx : cntL l1 ≤ 1000000 := by have : cntN (.mk k1 ⟨pk1, y1, m1, q1'⟩ a1 t1 l1) = cntL l1 + 1 := rfl; omega
            have LC9 : c + 1 + (cntL (l.take n) : Int) ≤ 64 := LO.out.1
            have z1 : (n : Int) < (l.length : Int) := by omega
            have cgl := CF.out.kx KL.out (fun h => h1 h.symm)
            have cg1 := cgl.cell
            have cg2 := cgl.lt
            have cg3 : ¬ BF = wr.heap.size := by omega
            have CGL := Lib.hid cgl
            have hbw : bk < wr.heap.size := Nat.lt_of_lt_of_le hb kw0.size
            have HLT := Lib.hid hlt
            have HJ := Lib.hid (show 0 ≤ j + 1 ∧ j + 1 ≤ 8 by omega)
            clear cgl kw0 hrow ih hsub
            go_wp2_with fail
            have ka := Kp.alloc wr (.cells #[.int .i64 k1, .int .i64 pk1, .string y1, .string m1, .string q1', .bool a1, .bool t1, .slice ad1 l1.length cp1] 26)
            refine (IH.out _ _ (KW0.out.trans ka) (LN.out.kp ka) (CGL.out.kp ka) ⟨by omega, LC9⟩ HJ.out hcx).mono ?_
            rintro e w5 ⟨cv, rfl, kx5, cn5, hcv⟩
            have KL5 := Lib.hid (KL.out.trans ((KX.kp ka).trans kx5))
            have LN5 := Lib.hid cn5
            have HCV := Lib.hid hcv
            have HOK : okX (c + 1 + (cntL (l.take n) : Int)) (j + 1) (.mk k1 ⟨pk1, y1, m1, q1'⟩ a1 t1 l1) = true → c + 1 + (cntL (l.take n) : Int) + (cntN (.mk k1 ⟨pk1, y1, m1, q1'⟩ a1 t1 l1) : Int) ≤ 64 := fun h => by
              unfold okX at h
              simp only [Bool.and_eq_true, decide_eq_true_eq] at h
              exact h.1
            have HOKH := Lib.hid HOK
            obtain ⟨rb, hrb⟩ : ∃ r, okX (c + 1 + (cntL (l.take n) : Int)) (j + 1) (.mk k1 ⟨pk1, y1, m1, q1'⟩ a1 t1 l1) = r := ⟨_, rfl⟩
            rw [hrb]
            have HRB := Lib.hid hrb
            clear kx5 cn5 ka e0 e1 e2 e3 e4 e5 e6 e7 cg1 hcv HOK hrb
            cases rb with
            | true =>
              go_wp2
              go_roundw
              case rel =>
                have e1 := HCV.out HRB.out
                have e2 : cv = c + 1 + (cntL (l.take (n + 1)) : Int) := by rw [ct, e1]; omega
                exact ⟨n + 1, HLT.out, by go_num, KL5, Lib.hid (by rw [← e2]; exact LN5.out), Lib.hid ⟨by rw [← e2, e1]; exact HOKH.out HRB.out, fun i hi => by
                  by_cases hin : i < n
                  · exact LA.out i hin
                  · obtain rfl : i = n := by omega
                    rw [NTH.out]; exact HRB.out⟩⟩
              case measure => have := HLT.out; simp [intOf]; omega
            | false =>
              obtain rfl : ok = false := HFn.out HRB.out
              go_wp2
              go_ret
              exact ⟨cv, rfl, KL5.out, LN5.out, fun h => by cases h⟩
          · obtain rfl : n = l.length := by omega
            obtain ⟨o1, o2⟩ := LO.out
            rw [List.take_length] at LN o1
            obtain rfl : ok = true := HOA.out o1 o2
            have LNE := LN.out
            have KLE := KL.out
            go_wp2
            go_ret
            first
            | exact ⟨_, rfl, KLE, LNE, fun _ => by rw [OC.out]; omega⟩
            | exact ⟨rfl, KLE, by rw [OC.out, show c + ((cntL l : Int) + 1) = c + 1 + (cntL l : Int) by omega]; exact LNE⟩
theorem isx_any (w0 : World) (BN BF : Nat) (h1 : BN ≠ BF) (b1 : w0.heap.size ≤ BN) (T : TabSH w0) : ∀ {v : Value} {l : List ND}, NodesAt w0 v l → ∀ (k : Int) (p : PT) (a t : Bool) (j c : Int) (w : World), Kp w0 w → Cel w BN 3 (.int .i64 c) → Cel w BF 43 (.func (.func 21) #[] #[.pointer (some ⟨BN, 0, none⟩), .pointer (some ⟨BF, 0, none⟩)]) → 0 ≤ c ∧ c ≤ 64 → 0 ≤ j ∧ j ≤ 8 → cntL l ≤ 1000000 →
      Calls Tryd.prog 21 #[ndV (.mk k p a t l) v, .int .i64 j, .pointer (some ⟨BN, 0, none⟩), .pointer (some ⟨BF, 0, none⟩)] w fun e w' =>
        ∃ cv : Int, e = .returned (.bool (okX c j (.mk k p a t l))) ∧ KX (fun b => b = BN) w w' ∧ Cel w' BN 3 (.int .i64 cv) ∧ (okX c j (.mk k p a t l) = true → cv = c + (cntN (.mk k p a t l) : Int)) := by
  refine @NodesAt.ind w0 (fun v l => ∀ (k : Int) (p : PT) (a t : Bool) (j c : Int) (w : World), Kp w0 w → Cel w BN 3 (.int .i64 c) → Cel w BF 43 (.func (.func 21) #[] #[.pointer (some ⟨BN, 0, none⟩), .pointer (some ⟨BF, 0, none⟩)]) → 0 ≤ c ∧ c ≤ 64 → 0 ≤ j ∧ j ≤ 8 → cntL l ≤ 1000000 →
      Calls Tryd.prog 21 #[ndV (.mk k p a t l) v, .int .i64 j, .pointer (some ⟨BN, 0, none⟩), .pointer (some ⟨BF, 0, none⟩)] w fun e w' =>
        ∃ cv : Int, e = .returned (.bool (okX c j (.mk k p a t l))) ∧ KX (fun b => b = BN) w w' ∧ Cel w' BN 3 (.int .i64 cv) ∧ (okX c j (.mk k p a t l) = true → cv = c + (cntN (.mk k p a t l) : Int))) ?_
  intro v l hh k p a t j c w k0 cn cf hc hj hl
  by_cases e0 : k = 0
  · subst e0; exact isx0_any w0 BN BF h1 b1 T v l hh p a t j c w k0 cn cf hc hj hl
  · by_cases e1 : k = 1
    · subst e1; exact isx1_any w0 BN BF h1 b1 T v l hh p a t j c w k0 cn cf hc hj hl
    · by_cases e2 : k = 2
      · subst e2; exact isx2_any w0 BN BF h1 b1 T v l hh p a t j c w k0 cn cf hc hj hl
      · exact isx3_any w0 BN BF h1 b1 T v l hh k p a t j c w k0 cn cf ⟨beq_eq_false_iff_ne.2 e0, beq_eq_false_iff_ne.2 e1, beq_eq_false_iff_ne.2 e2⟩ hc hj hl
set_option maxHeartbeats 16000000 in
set_option maxRecDepth 100000 in
theorem tSane_any (n : ND) (v : Value) (w : World) (h : NodesAt w v n.l) (hn : cntN n ≤ 1000) (T : TabSH w) :
    Calls Tryd.prog 10 #[ndV n v] w fun e w' => e = .returned (.bool (saneN saneP n)) ∧ Kp w w' := by
  have hmf : ∀ (fn : Fn) (first cap : Array Value) (w : World), (Instr.makeFunc fn first cap).run Tryd.prog w = .ok (.func fn first cap) w := fun _ _ _ _ => rfl
  have IH := Lib.hid (fun BN BF h1 b1 => isx_any w BN BF h1 b1 T h)
  have cm := cntN_mk n
  have er : saneN saneP n = okX 0 0 n := by
    unfold saneN okX
    congr 1
    · congr 1; apply propext; omega
    · congr 1; congr 1; apply propext; omega
  rw [er]
  clear er
  obtain ⟨ad, cp, rfl⟩ := h.slice
  obtain ⟨k, pk, y, m, q, a, t, l, rfl⟩ := nd_dest n
  unfold ndV at *
  simp only [ND.k, ND.p, ND.a, ND.t, ND.l] at *
  obtain ⟨res, hres⟩ : ∃ r, okX 0 0 (.mk k ⟨pk, y, m, q⟩ a t l) = r := ⟨_, rfl⟩
  have IH2 := Lib.hid (fun BN BF h1 b1 => IH.out BN BF h1 b1 k ⟨pk, y, m, q⟩ a t 0 0)
  rw [hres] at IH2 ⊢
  clear h IH T hres
  go_enter Tryd.func10, Tryd.ntmps10
  go_wp2_with fail
  obtain ⟨W1, hW1⟩ : ∃ x, x = w.alloc (.cells #[.int .i64 k, .int .i64 pk, .string y, .string m, .string q, .bool a, .bool t, .slice ad l.length cp] 26) := ⟨_, rfl⟩
  have z1 : W1.heap.size = w.heap.size + 1 := by rw [hW1]; simp
  have k1 : Kp w W1 := by rw [hW1]; exact Kp.alloc _ _
  rw [← hW1]
  obtain ⟨W2, hW2⟩ : ∃ x, x = W1.alloc (.cells #[.int .i64 0] 3) := ⟨_, rfl⟩
  have z2 : W2.heap.size = w.heap.size + 1 + 1 := by rw [hW2]; simp [z1]
  have k2 : Kp W1 W2 := by rw [hW2]; exact Kp.alloc _ _
  have c2 : Cel W2 (w.heap.size + 1) 3 (.int .i64 0) := by rw [hW2]; exact heap_at _ _ _ z1
  rw [← hW2]
  obtain ⟨W3, hW3⟩ : ∃ x, x = W2.alloc (.cells #[.func (.func 21) #[] #[.pointer (some ⟨w.heap.size + 1, 0, none⟩), .pointer (some ⟨w.heap.size + 1 + 1, 0, none⟩)]] 43) := ⟨_, rfl⟩
  have k3 : Kp W2 W3 := by rw [hW3]; exact Kp.alloc _ _
  have f3 : Cel W3 (w.heap.size + 1 + 1) 43 (.func (.func 21) #[] #[.pointer (some ⟨w.heap.size + 1, 0, none⟩), .pointer (some ⟨w.heap.size + 1 + 1, 0, none⟩)]) := by rw [hW3]; exact heap_at _ _ _ z2
  rw [← hW3]
  have kk : Kp w W3 := k1.trans (k2.trans k3)
  refine (IH2.out (w.heap.size + 1) (w.heap.size + 1 + 1) (by omega) (by omega) W3 kk (c2.kp k3) f3 (by omega) (by omega) (by omega)).mono ?_
  rintro e w5 ⟨cv, rfl, kx5, _, _⟩
  have K5 := Lib.hid (kx5.to kk (fun b h => by omega))
  clear kx5 hW1 hW2 hW3 k1 k2 k3 c2 f3 kk
  go_wp2
  go_ret
  exact ⟨rfl, K5.out⟩
end Go.Proofs.YtndmohamjffpcaaDoor

namespace Go.Proofs.YtndmohamjffpcaaDoor
open Go.RowKit
set_option linter.unusedVariables false
set_option linter.unusedSimpArgs false
theorem sameL_at : ∀ {l m : List ND}, l.length = m.length → (sameL l m = true ↔ ∀ i, i < l.length → sameN (nth l i) (nth m i) = true)
  | [], [], _ => by simp [sameL]
  | x :: l, y :: m, h => by
    have ih := sameL_at (l := l) (m := m) (by simpa using h)
    simp only [sameL, Bool.and_eq_true, ih, List.length_cons]
    constructor
    · rintro ⟨h0, h1⟩ i hi
      match i with
      | 0 => exact h0
      | i + 1 => exact h1 i (by omega)
    · intro g
      exact ⟨g 0 (by omega), fun i hi => g (i + 1) (by omega)⟩
theorem sameL_len : ∀ {l m : List ND}, sameL l m = true → l.length = m.length
  | [], [], _ => rfl
  | [], _ :: _, h => by simp [sameL] at h
  | _ :: _, [], h => by simp [sameL] at h
  | x :: l, y :: m, h => by
    simp only [sameL, Bool.and_eq_true] at h
    simp [sameL_len h.2]
theorem sameN_fields {n m : ND} : sameN n m = ((n.k == m.k && (eqP n.p m.p && (n.a == m.a && (n.t == m.t && (n.l.length : Int) == m.l.length)))) && sameL n.l m.l) := by
  obtain ⟨k, p, a, t, l⟩ := n
  obtain ⟨k', p', a', t', l'⟩ := m
  simp only [sameN, ND.k, ND.p, ND.a, ND.t, ND.l]
  have hl : sameL l l' = (((l.length : Int) == l'.length) && sameL l l') := by
    cases h : sameL l l' with
    | false => simp
    | true => have := sameL_len h; rw [this]; simp
  rw [hl]
  have e1 : decide (k = k') = (k == k') := by by_cases h : k = k' <;> simp [h]
  have e2 : decide (a = a') = (a == a') := by cases a <;> cases a' <;> rfl
  have e3 : decide (t = t') = (t == t') := by cases t <;> cases t' <;> rfl
  rw [e1, e2, e3]
  simp only [Bool.and_assoc, Bool.and_self]
  cases h : sameL l l' with
  | false => simp
  | true => have := sameL_len h; rw [this]; simp
theorem NodesAt.get {w : World} {ad : Option Addr} {cp : Nat} {l : List ND} (h : NodesAt w (.slice ad l.length cp) l) {i : Nat} (hi : i < l.length) : ∃ b off vi, ad = some ⟨b, off, Option.none⟩ ∧ RowN w b (off + i * 8) (nth l i) vi ∧ NodesAt w vi (nth l i).l := by
  generalize hv : Value.slice ad l.length cp = v at h
  cases h with
  | none ad c => simp at hi
  | row l b off cap vs hp hc hm hr hs =>
    cases hv
    exact ⟨b, off, vs i, rfl, hr i hi, hs i hi⟩
abbrev sM0 : Oper := { dst := some 30, op := Go.Op.load 58 (Go.Operand.tmp 4), type := 58, pos := "tree.go:107", after := #[], guard := none }
abbrev sM1 : Oper := { dst := some 31, op := Go.Op.fieldAddr 26 (Go.Operand.tmp 5) 4, type := 0, pos := "tree.go:107", after := #[], guard := none }
abbrev sM2 : Oper := { dst := some 32, op := Go.Op.load 24 (Go.Operand.tmp 31), type := 24, pos := "tree.go:107", after := #[{ on := 1, ground := Go.Ground.data }], guard := none }
abbrev sM3 : Oper := { dst := some 33, op := Go.Op.move (Go.Operand.tmp 9), type := 3, pos := "tree.go:107", after := #[], guard := none }
abbrev sM4 : Oper := { dst := some 34, op := Go.Op.indexAddr 24 (Go.Operand.tmp 32) (Go.Operand.tmp 33), type := 0, pos := "tree.go:107", after := #[{ on := 2, ground := Go.Ground.data }, { on := 3, ground := Go.Ground.data }], guard := none }
abbrev sM5 : Oper := { dst := some 35, op := Go.Op.load 26 (Go.Operand.tmp 34), type := 26, pos := "tree.go:107", after := #[{ on := 4, ground := Go.Ground.data }], guard := none }
abbrev sM6 : Oper := { dst := some 36, op := Go.Op.fieldAddr 26 (Go.Operand.tmp 6) 4, type := 0, pos := "tree.go:107", after := #[], guard := none }
abbrev sM7 : Oper := { dst := some 37, op := Go.Op.load 24 (Go.Operand.tmp 36), type := 24, pos := "tree.go:107", after := #[{ on := 6, ground := Go.Ground.data }], guard := none }
abbrev sM8 : Oper := { dst := some 38, op := Go.Op.move (Go.Operand.tmp 9), type := 3, pos := "tree.go:107", after := #[], guard := none }
abbrev sM9 : Oper := { dst := some 39, op := Go.Op.indexAddr 24 (Go.Operand.tmp 37) (Go.Operand.tmp 38), type := 0, pos := "tree.go:107", after := #[{ on := 7, ground := Go.Ground.data }, { on := 8, ground := Go.Ground.data }], guard := none }
abbrev sM10 : Oper := { dst := some 40, op := Go.Op.load 26 (Go.Operand.tmp 39), type := 26, pos := "tree.go:107", after := #[{ on := 9, ground := Go.Ground.data }], guard := none }
abbrev sM11 : Oper := { dst := some 41, op := Go.Op.move (Go.Operand.tmp 2), type := 3, pos := "tree.go:107", after := #[], guard := none }
abbrev sM12 : Oper := { dst := some 42, op := Go.Op.binOp Go.BinOp.add 3 (Go.Operand.tmp 41) (Go.Operand.const (Go.Value.int Go.IntKind.i64 1)) 3, type := 3, pos := "tree.go:107", after := #[{ on := 11, ground := Go.Ground.data }], guard := none }
abbrev sM13 : Oper := { dst := some 43, op := Go.Op.call { callee := Go.Callee.value (Go.Operand.tmp 30), args := #[Go.Operand.tmp 35, Go.Operand.tmp 40, Go.Operand.tmp 42], argTypes := #[26, 26, 3] }, type := 4, pos := "tree.go:107", after := #[{ on := 0, ground := Go.Ground.data }, { on := 5, ground := Go.Ground.data }, { on := 10, ground := Go.Ground.data }, { on := 12, ground := Go.Ground.data }], guard := none }
abbrev sM14 : Oper := { dst := some 44, op := Go.Op.unOp Go.UnOp.not 4 (Go.Operand.tmp 43), type := 4, pos := "tree.go:107", after := #[{ on := 13, ground := Go.Ground.data }], guard := none }
set_option maxHeartbeats 16000000 in
set_option maxRecDepth 100000 in
theorem isSame_any (w0 : World) (BN BF : Nat) (h1 : BN ≠ BF) (b1 : w0.heap.size ≤ BN) : ∀ {v : Value} {l : List ND}, NodesAt w0 v l → ∀ (k : Int) (p : PT) (a t : Bool) (n2 : ND) (u : Value) (lev nd : Int) (w : World), NodesAt w0 u n2.l → Kp w0 w → Cel w BN 3 (.int .i64 nd) → Cel w BF 58 (.func (.func 27) #[] #[.pointer (some ⟨BN, 0, none⟩), .pointer (some ⟨BF, 0, none⟩)]) → 0 ≤ nd ∧ nd + (cntL l : Int) + 1 ≤ 1000000 → 0 ≤ lev ∧ lev + (cntL l : Int) + 1 ≤ 100000 →
      Calls Tryd.prog 27 #[ndV (.mk k p a t l) v, ndV n2 u, .int .i64 lev, .pointer (some ⟨BN, 0, none⟩), .pointer (some ⟨BF, 0, none⟩)] w fun e w' =>
        e = .returned (.bool (sameN (.mk k p a t l) n2)) ∧ KX (fun b => b = BN) w w' ∧ ∃ cv : Int, Cel w' BN 3 (.int .i64 cv) ∧ nd ≤ cv ∧ cv ≤ nd + (cntL l : Int) + 1 := by
  refine @NodesAt.ind w0 (fun v l => ∀ (k : Int) (p : PT) (a t : Bool) (n2 : ND) (u : Value) (lev nd : Int) (w : World), NodesAt w0 u n2.l → Kp w0 w → Cel w BN 3 (.int .i64 nd) → Cel w BF 58 (.func (.func 27) #[] #[.pointer (some ⟨BN, 0, none⟩), .pointer (some ⟨BF, 0, none⟩)]) → 0 ≤ nd ∧ nd + (cntL l : Int) + 1 ≤ 1000000 → 0 ≤ lev ∧ lev + (cntL l : Int) + 1 ≤ 100000 →
        Calls Tryd.prog 27 #[ndV (.mk k p a t l) v, ndV n2 u, .int .i64 lev, .pointer (some ⟨BN, 0, none⟩), .pointer (some ⟨BF, 0, none⟩)] w fun e w' =>
          e = .returned (.bool (sameN (.mk k p a t l) n2)) ∧ KX (fun b => b = BN) w w' ∧ ∃ cv : Int, Cel w' BN 3 (.int .i64 cv) ∧ nd ≤ cv ∧ cv ≤ nd + (cntL l : Int) + 1) ?_
  rintro v l ⟨ad, cp, rfl, hrow⟩ k p a t n2 u lev nd w hu k0 cn cf ⟨n0, n9⟩ ⟨l0, l9⟩
  have ll := len_cntL l
  obtain ⟨pk, y, m, q⟩ := p
  have HR := Lib.hid hrow
  have SF := fun w1 => sameF_any (.mk k ⟨pk, y, m, q⟩ a t l) n2 (.slice ad l.length cp) u w1 ⟨_, _, rfl⟩ hu.slice
  have FE := sameN_fields (n := .mk k ⟨pk, y, m, q⟩ a t l) (m := n2)
  obtain ⟨ad', cp', rfl⟩ := hu.slice
  obtain ⟨k', pk', y', m', q', a', t', l', rfl⟩ := nd_dest n2
  have HU := Lib.hid hu
  unfold ndV at *
  simp only [ND.k, ND.p, ND.a, ND.t] at *
  rw [show (ND.mk k ⟨pk, y, m, q⟩ a t l).l = l from rfl, show (ND.mk k' ⟨pk', y', m', q'⟩ a' t' l').l = l' from rfl] at FE
  rw [show (ND.mk k ⟨pk, y, m, q⟩ a t l).l = l from rfl, show (ND.mk k' ⟨pk', y', m', q'⟩ a' t' l').l = l' from rfl] at SF
  rw [show (ND.mk k' ⟨pk', y', m', q'⟩ a' t' l').l = l' from rfl] at HU ⊢
  rw [FE]
  obtain ⟨fb, hfb⟩ : ∃ b, (k == k' && (eqP ⟨pk, y, m, q⟩ ⟨pk', y', m', q'⟩ && (a == a' && (t == t' && (l.length : Int) == l'.length)))) = b := ⟨_, rfl⟩
  rw [hfb] at SF ⊢
  have HFB := Lib.hid hfb
  have SFH := Lib.hid SF
  have n1 := cn.cell
  have n2 := cn.frozen
  have n3 := cn.lt
  have n4 : ¬ BN = w.heap.size := by omega
  have n5 : ¬ BN = w.heap.size + 1 := by omega
  have f3 := cf.lt
  have CF := Lib.hid cf
  have CN := Lib.hid cn
  have K0 := Lib.hid k0
  have q1 : decide (131072 < lev) = false := decide_eq_false (by omega)
  have q2 : decide (2147483647 < nd + 1) = false := decide_eq_false (by omega)
  clear hrow cn cf k0 hu SF FE hfb
  cases fb with
  | false =>
    rw [Bool.false_and]
    go_enter Tryd.func27, Tryd.ntmps27
    go_wp2_with fail
    obtain ⟨W1, hW1⟩ : ∃ x, x = (w.setCell ⟨BN, 0, none⟩ (.int .i64 (nd + 1))).alloc (.cells #[.int .i64 k, .int .i64 pk, .string y, .string m, .string q, .bool a, .bool t, .slice ad l.length cp] 26) := ⟨_, rfl⟩
    have kx1 : KX (fun b => b = BN) w W1 := by rw [hW1]; exact (KX.set (X := fun b => b = BN) rfl w _).trans (KX.kp (Kp.alloc _ _))
    have gA : W1.heap[w.heap.size]? = some (.cells #[.int .i64 k, .int .i64 pk, .string y, .string m, .string q, .bool a, .bool t, .slice ad l.length cp] 26 (0, 0)) := by rw [hW1]; exact heap_at _ _ _ (by unfold World.setCell; simp)
    have z1 : W1.heap.size = w.heap.size + 1 := by rw [hW1]; unfold World.setCell; simp
    have cn1 : Cel W1 BN 3 (.int .i64 (nd + 1)) := by rw [hW1]; exact (CN.out.set _).kp (Kp.alloc _ _)
    rw [← hW1]
    obtain ⟨W2, hW2⟩ : ∃ x, x = W1.alloc (.cells #[.int .i64 k', .int .i64 pk', .string y', .string m', .string q', .bool a', .bool t', .slice ad' l'.length cp'] 26) := ⟨_, rfl⟩
    have ka : Kp W1 W2 := by rw [hW2]; exact Kp.alloc _ _
    have gB : W2.heap[w.heap.size + 1]? = some (.cells #[.int .i64 k', .int .i64 pk', .string y', .string m', .string q', .bool a', .bool t', .slice ad' l'.length cp'] 26 (0, 0)) := by rw [hW2]; exact heap_at _ _ _ z1
    have kx2 := kx1.trans (KX.kp (X := fun b => b = BN) ka)
    have cn2 := cn1.kp ka
    have gA2 := heap_block ka gA
    rw [← hW2]
    refine (SFH.out _).mono ?_
    rintro e w3 ⟨rfl, kk⟩
    have KX3 := Lib.hid (kx2.trans (KX.kp kk))
    have CN3 := Lib.hid (cn2.kp kk)
    have GA := Lib.hid (heap_block kk gA2)
    have GB := Lib.hid (heap_block kk gB)
    clear hW1 hW2 kx1 kx2 ka gA gB gA2 cn1 cn2 kk z1 n1 n2
    go_wp2
    go_ret
    exact ⟨rfl, KX3.out, _, CN3.out, by omega, by omega⟩
  | true =>
    rw [Bool.true_and]
    have hlen : l.length = l'.length := by
      have := HFB.out
      simp only [Bool.and_eq_true, beq_iff_eq] at this
      omega
    have SA := Lib.hid (sameL_at (l := l) (m := l') hlen)
    have HLEN := Lib.hid hlen
    obtain ⟨res, hres⟩ : ∃ r, sameL l l' = r := ⟨_, rfl⟩
    rw [hres] at SA ⊢
    clear hres hlen
    go_enter Tryd.func27, Tryd.ntmps27
    go_wp2_with fail
    obtain ⟨W1, hW1⟩ : ∃ x, x = (w.setCell ⟨BN, 0, none⟩ (.int .i64 (nd + 1))).alloc (.cells #[.int .i64 k, .int .i64 pk, .string y, .string m, .string q, .bool a, .bool t, .slice ad l.length cp] 26) := ⟨_, rfl⟩
    have kx1 : KX (fun b => b = BN) w W1 := by rw [hW1]; exact (KX.set (X := fun b => b = BN) rfl w _).trans (KX.kp (Kp.alloc _ _))
    have gA : W1.heap[w.heap.size]? = some (.cells #[.int .i64 k, .int .i64 pk, .string y, .string m, .string q, .bool a, .bool t, .slice ad l.length cp] 26 (0, 0)) := by rw [hW1]; exact heap_at _ _ _ (by unfold World.setCell; simp)
    have z1 : W1.heap.size = w.heap.size + 1 := by rw [hW1]; unfold World.setCell; simp
    have cn1 : Cel W1 BN 3 (.int .i64 (nd + 1)) := by rw [hW1]; exact (CN.out.set _).kp (Kp.alloc _ _)
    rw [← hW1]
    obtain ⟨W2, hW2⟩ : ∃ x, x = W1.alloc (.cells #[.int .i64 k', .int .i64 pk', .string y', .string m', .string q', .bool a', .bool t', .slice ad' l'.length cp'] 26) := ⟨_, rfl⟩
    have ka : Kp W1 W2 := by rw [hW2]; exact Kp.alloc _ _
    have gB : W2.heap[w.heap.size + 1]? = some (.cells #[.int .i64 k', .int .i64 pk', .string y', .string m', .string q', .bool a', .bool t', .slice ad' l'.length cp'] 26 (0, 0)) := by rw [hW2]; exact heap_at _ _ _ z1
    have kx2 := kx1.trans (KX.kp (X := fun b => b = BN) ka)
    have cn2 := cn1.kp ka
    have gA2 := heap_block ka gA
    rw [← hW2]
    refine (SFH.out _).mono ?_
    rintro e w3 ⟨rfl, kk⟩
    have KX3 := Lib.hid (kx2.trans (KX.kp kk))
    have CN3 := Lib.hid (cn2.kp kk)
    have GA := Lib.hid (heap_block kk gA2)
    have GB := Lib.hid (heap_block kk gB)
    clear hW1 hW2 kx1 kx2 ka gA gB gA2 cn1 cn2 kk z1 n1 n2
    obtain ⟨_, _, _, _, _, _, _, x7⟩ := row8 GA.out
    go_wp2
    go_loopw [27] (fun s ws => ∃ i : Nat, i ≤ l.length ∧ s = .int .i64 i ∧ Hid (KX (fun b => b = BN) w ws) ∧ Hid (∃ cv : Int, Cel ws BN 3 (.int .i64 cv) ∧ nd ≤ cv ∧ cv ≤ nd + 1 + (cntL (l.take i) : Int)) ∧ Hid (KX (fun b => b = BN) w3 ws) ∧ Hid (∀ x, x < i → sameN (nth l x) (nth l' x) = true)) (fun s _ => l.length - (intOf s).toNat)
    case atStart => exact ⟨0, Nat.zero_le _, rfl, KX3, Lib.hid ⟨nd + 1, CN3.out, by omega, by omega⟩, Lib.hid (KX.refl _ _), Lib.hid (fun x hx => by omega)⟩
    case round =>
      obtain ⟨i, hi, rfl, KL, LN, KM, LO⟩ := hrel
      by_cases hlt : i < l.length
      · obtain ⟨cv, cnl, c1, c2⟩ := LN.out
        have hlt2 : i < l'.length := by rw [← HLEN.out]; exact hlt
        obtain ⟨bk, of, rfl, hall⟩ := HR.out (by omega)
        obtain ⟨vi, hrow, hsub, ih⟩ := hall i hlt
        obtain ⟨bk', of', vi', rfl, hrow', hsub'⟩ := HU.out.get hlt2
        have kw0 : Kp w0 wr := KL.out.to K0.out (fun b h => by omega)
        obtain ⟨e0, e1, e2, e3, e4, e5, e6, e7⟩ := hrow.kp kw0
        obtain ⟨d0, d1, d2, d3, d4, d5, d6, d7⟩ := hrow'.kp kw0
        have hb := World.block_lt_of_cell? _ _ hrow.1
        have hb' := World.block_lt_of_cell? _ _ hrow'.1
        simp only at hb hb'
        have KW0 := Lib.hid kw0
        have ca := cnt_at hlt
        have ct := cntL_take hlt
        have SAB := Lib.hid (fun (h : res = true) => SA.out.1 h i hlt)
        clear hall
        obtain ⟨x, hx⟩ : ∃ x, nth l i = x := ⟨_, rfl⟩
        obtain ⟨z, hz⟩ : ∃ x, nth l' i = x := ⟨_, rfl⟩
        rw [hx, hz] at SAB
        rw [hx] at e0 e1 e2 e3 e4 e5 e6 ca ct ih hsub
        rw [hz] at d0 d1 d2 d3 d4 d5 d6 hsub'
        have NTH := Lib.hid hx
        have NTZ := Lib.hid hz
        clear hx hz hrow hrow'
        obtain ⟨k1, ⟨pk1, yk1, mk1, qk1⟩, ak1, tk1, lk1⟩ := x
        obtain ⟨j1, ⟨pj1, yj1, mj1, qj1⟩, aj1, tj1, lj1⟩ := z
        simp only [ND.k, ND.p, ND.a, ND.t, ND.l] at e0 e1 e2 e3 e4 e5 e6 ih hsub
        simp only [ND.k, ND.p, ND.a, ND.t, ND.l] at d0 d1 d2 d3 d4 d5 d6 hsub'
        obtain ⟨adk1, cpk1, rfl⟩ := hsub.slice
        obtain ⟨adj1, cpj1, rfl⟩ := hsub'.slice
        have HU1 := Lib.hid hsub'
        obtain ⟨sb, hsb⟩ : ∃ r, sameN (.mk k1 ⟨pk1, yk1, mk1, qk1⟩ ak1 tk1 lk1) (.mk j1 ⟨pj1, yj1, mj1, qj1⟩ aj1 tj1 lj1) = r := ⟨_, rfl⟩
        have IHc := ih k1 ⟨pk1, yk1, mk1, qk1⟩ ak1 tk1 (.mk j1 ⟨pj1, yj1, mj1, qj1⟩ aj1 tj1 lj1) (.slice adj1 lj1.length cpj1) (lev + 1) cv
        rw [hsb] at IHc SAB
        have HSB := Lib.hid hsb
        (try unfold ndV at IHc)
        simp only [ND.k, ND.p, ND.a, ND.t, ND.l] at IHc
        have IH := Lib.hid IHc
        have cc1 : cntN (.mk k1 ⟨pk1, yk1, mk1, qk1⟩ ak1 tk1 lk1) = cntL lk1 + 1 := rfl
        have HB1 := Lib.hid (show 0 ≤ cv ∧ cv + (cntL lk1 : Int) + 1 ≤ 1000000 by omega)
        have HB2 := Lib.hid (show 0 ≤ lev + 1 ∧ lev + 1 + (cntL lk1 : Int) + 1 ≤ 100000 by omega)
        have HC5 := Lib.hid (fun (c5 : Int) (h : c5 ≤ cv + (cntL lk1 : Int) + 1) => (by rw [ct, cc1]; omega : c5 ≤ nd + 1 + (cntL (l.take (i + 1)) : Int)))
        have ga := KM.out.cell (show w3.cell? ⟨w.heap.size, 7, none⟩ = some (.slice (some ⟨bk, of, none⟩) l.length cp) from x7) (by omega)
        have gb := KM.out.cell (row8 GB.out).2.2.2.2.2.2.2 (by omega)
        have cgl := CF.out.kx KL.out (fun h => h1 h.symm)
        have gf := cgl.cell
        have CGL := Lib.hid cgl
        have CNL := Lib.hid cnl
        have z1 : (i : Int) < (l.length : Int) := by omega
        have z2 : (i : Int) < (l'.length : Int) := by omega
        have z3 : (0 : Int) ≤ (i : Int) := by omega
        have HLT := Lib.hid hlt
        have hlev : IntKind.i64.wrap (lev + 1) = lev + 1 := by rw [IntKind.wrap_i64]; omega
        have KS := Lib.hid (fun w' (q : KX (fun b => b = BN) wr w') => show w'.cell? ⟨bk, of + i * 8, none⟩ = some (.int .i64 k1) ∧ w'.cell? ⟨bk, of + i * 8 + 1, none⟩ = some (.int .i64 pk1) ∧ w'.cell? ⟨bk, of + i * 8 + 2, none⟩ = some (.string yk1) ∧ w'.cell? ⟨bk, of + i * 8 + 3, none⟩ = some (.string mk1) ∧ w'.cell? ⟨bk, of + i * 8 + 4, none⟩ = some (.string qk1) ∧ w'.cell? ⟨bk, of + i * 8 + 5, none⟩ = some (.bool ak1) ∧ w'.cell? ⟨bk, of + i * 8 + 6, none⟩ = some (.bool tk1) ∧ w'.cell? ⟨bk, of + i * 8 + 7, none⟩ = some (.slice adk1 lk1.length cpk1) ∧ w'.cell? ⟨bk', of' + i * 8, none⟩ = some (.int .i64 j1) ∧ w'.cell? ⟨bk', of' + i * 8 + 1, none⟩ = some (.int .i64 pj1) ∧ w'.cell? ⟨bk', of' + i * 8 + 2, none⟩ = some (.string yj1) ∧ w'.cell? ⟨bk', of' + i * 8 + 3, none⟩ = some (.string mj1) ∧ w'.cell? ⟨bk', of' + i * 8 + 4, none⟩ = some (.string qj1) ∧ w'.cell? ⟨bk', of' + i * 8 + 5, none⟩ = some (.bool aj1) ∧ w'.cell? ⟨bk', of' + i * 8 + 6, none⟩ = some (.bool tj1) ∧ w'.cell? ⟨bk', of' + i * 8 + 7, none⟩ = some (.slice adj1 lj1.length cpj1) ∧ w'.cell? ⟨w.heap.size, 7, none⟩ = some (.slice (some ⟨bk, of, none⟩) l.length cp) ∧ w'.cell? ⟨w.heap.size + 1, 7, none⟩ = some (.slice (some ⟨bk', of', none⟩) l'.length cp') ∧ w'.cell? ⟨BF, 0, none⟩ = some (.func (.func 27) #[] #[.pointer (some ⟨BN, 0, none⟩), .pointer (some ⟨BF, 0, none⟩)]) ∧ KX (fun b => b = BN) wr w' from ⟨q.cell e0 (by omega), q.cell e1 (by omega), q.cell e2 (by omega), q.cell e3 (by omega), q.cell e4 (by omega), q.cell e5 (by omega), q.cell e6 (by omega), q.cell e7 (by omega), q.cell d0 (by omega), q.cell d1 (by omega), q.cell d2 (by omega), q.cell d3 (by omega), q.cell d4 (by omega), q.cell d5 (by omega), q.cell d6 (by omega), q.cell d7 (by omega), q.cell ga (by omega), q.cell gb (by omega), q.cell gf (fun h => h1 h.symm), q⟩)
        clear cgl kw0 ih hsub hsub' cnl hsb IHc ct cc1
        go_wp2_with fail
        refine wp_region_held_drew (S := fun w' => w'.cell? ⟨bk, of + i * 8, none⟩ = some (.int .i64 k1) ∧ w'.cell? ⟨bk, of + i * 8 + 1, none⟩ = some (.int .i64 pk1) ∧ w'.cell? ⟨bk, of + i * 8 + 2, none⟩ = some (.string yk1) ∧ w'.cell? ⟨bk, of + i * 8 + 3, none⟩ = some (.string mk1) ∧ w'.cell? ⟨bk, of + i * 8 + 4, none⟩ = some (.string qk1) ∧ w'.cell? ⟨bk, of + i * 8 + 5, none⟩ = some (.bool ak1) ∧ w'.cell? ⟨bk, of + i * 8 + 6, none⟩ = some (.bool tk1) ∧ w'.cell? ⟨bk, of + i * 8 + 7, none⟩ = some (.slice adk1 lk1.length cpk1) ∧ w'.cell? ⟨bk', of' + i * 8, none⟩ = some (.int .i64 j1) ∧ w'.cell? ⟨bk', of' + i * 8 + 1, none⟩ = some (.int .i64 pj1) ∧ w'.cell? ⟨bk', of' + i * 8 + 2, none⟩ = some (.string yj1) ∧ w'.cell? ⟨bk', of' + i * 8 + 3, none⟩ = some (.string mj1) ∧ w'.cell? ⟨bk', of' + i * 8 + 4, none⟩ = some (.string qj1) ∧ w'.cell? ⟨bk', of' + i * 8 + 5, none⟩ = some (.bool aj1) ∧ w'.cell? ⟨bk', of' + i * 8 + 6, none⟩ = some (.bool tj1) ∧ w'.cell? ⟨bk', of' + i * 8 + 7, none⟩ = some (.slice adj1 lj1.length cpj1) ∧ w'.cell? ⟨w.heap.size, 7, none⟩ = some (.slice (some ⟨bk, of, none⟩) l.length cp) ∧ w'.cell? ⟨w.heap.size + 1, 7, none⟩ = some (.slice (some ⟨bk', of', none⟩) l'.length cp') ∧ w'.cell? ⟨BF, 0, none⟩ = some (.func (.func 27) #[] #[.pointer (some ⟨BN, 0, none⟩), .pointer (some ⟨BF, 0, none⟩)]) ∧ KX (fun b => b = BN) wr w') (by kernel_rfl) ?_ (fun hHeld0 => ?_)
        · (try dsimp only); exact KS.out _ (by first | exact KX.refl _ _ | exact KX.kp (Kp.drew _) | assumption)
        refine tkW (v := ?_) 0 sM0 rfl (by kernel_rfl) (by kernel_rfl) (by kernel_rfl) (fun _ _ _ h => h) (by rfl) ?_ (by assumption) ?_
        rotate_left
        · intro w hSw; (try dsimp only at hSw); go_simp; (try with_reducible rfl)
        (try simp only [Act.put, sM0, List.setIfInBounds_toArray, List.set_cons_zero, List.set_cons_succ])
        refine tkW (v := ?_) 1 sM1 rfl (by kernel_rfl) (by kernel_rfl) (by kernel_rfl) (fun _ _ _ h => h) (by rfl) ?_ (by assumption) ?_
        rotate_left
        · intro w hSw; (try dsimp only at hSw); go_simp; (try with_reducible rfl)
        (try simp only [Act.put, sM1, List.setIfInBounds_toArray, List.set_cons_zero, List.set_cons_succ])
        refine tkW (v := ?_) 2 sM2 rfl (by kernel_rfl) (by kernel_rfl) (by kernel_rfl) (fun _ _ _ h => h) (by rfl) ?_ (by assumption) ?_
        rotate_left
        · intro w hSw; (try dsimp only at hSw); go_simp; (try with_reducible rfl)
        (try simp only [Act.put, sM2, List.setIfInBounds_toArray, List.set_cons_zero, List.set_cons_succ])
        refine tkW (v := ?_) 3 sM3 rfl (by kernel_rfl) (by kernel_rfl) (by kernel_rfl) (fun _ _ _ h => h) (by rfl) ?_ (by assumption) ?_
        rotate_left
        · intro w hSw; (try dsimp only at hSw); go_simp; (try with_reducible rfl)
        (try simp only [Act.put, sM3, List.setIfInBounds_toArray, List.set_cons_zero, List.set_cons_succ])
        refine tkW (v := ?_) 4 sM4 rfl (by kernel_rfl) (by kernel_rfl) (by kernel_rfl) (fun _ _ _ h => h) (by rfl) ?_ (by assumption) ?_
        rotate_left
        · intro w hSw; (try dsimp only at hSw); go_simp; (try with_reducible rfl)
        (try simp only [Act.put, sM4, List.setIfInBounds_toArray, List.set_cons_zero, List.set_cons_succ])
        refine tkW (v := ?_) 5 sM5 rfl (by kernel_rfl) (by kernel_rfl) (by kernel_rfl) (fun _ _ _ h => h) (by rfl) ?_ (by assumption) ?_
        rotate_left
        · intro w hSw; (try dsimp only at hSw); go_simp; (try with_reducible rfl)
        (try simp only [Act.put, sM5, List.setIfInBounds_toArray, List.set_cons_zero, List.set_cons_succ])
        refine tkW (v := ?_) 6 sM6 rfl (by kernel_rfl) (by kernel_rfl) (by kernel_rfl) (fun _ _ _ h => h) (by rfl) ?_ (by assumption) ?_
        rotate_left
        · intro w hSw; (try dsimp only at hSw); go_simp; (try with_reducible rfl)
        (try simp only [Act.put, sM6, List.setIfInBounds_toArray, List.set_cons_zero, List.set_cons_succ])
        refine tkW (v := ?_) 7 sM7 rfl (by kernel_rfl) (by kernel_rfl) (by kernel_rfl) (fun _ _ _ h => h) (by rfl) ?_ (by assumption) ?_
        rotate_left
        · intro w hSw; (try dsimp only at hSw); go_simp; (try with_reducible rfl)
        (try simp only [Act.put, sM7, List.setIfInBounds_toArray, List.set_cons_zero, List.set_cons_succ])
        refine tkW (v := ?_) 8 sM8 rfl (by kernel_rfl) (by kernel_rfl) (by kernel_rfl) (fun _ _ _ h => h) (by rfl) ?_ (by assumption) ?_
        rotate_left
        · intro w hSw; (try dsimp only at hSw); go_simp; (try with_reducible rfl)
        (try simp only [Act.put, sM8, List.setIfInBounds_toArray, List.set_cons_zero, List.set_cons_succ])
        refine tkW (v := ?_) 9 sM9 rfl (by kernel_rfl) (by kernel_rfl) (by kernel_rfl) (fun _ _ _ h => h) (by rfl) ?_ (by assumption) ?_
        rotate_left
        · intro w hSw; (try dsimp only at hSw); go_simp; (try with_reducible rfl)
        (try simp only [Act.put, sM9, List.setIfInBounds_toArray, List.set_cons_zero, List.set_cons_succ])
        refine tkW (v := ?_) 10 sM10 rfl (by kernel_rfl) (by kernel_rfl) (by kernel_rfl) (fun _ _ _ h => h) (by rfl) ?_ (by assumption) ?_
        rotate_left
        · intro w hSw; (try dsimp only at hSw); go_simp; (try with_reducible rfl)
        (try simp only [Act.put, sM10, List.setIfInBounds_toArray, List.set_cons_zero, List.set_cons_succ])
        refine tkW (v := ?_) 11 sM11 rfl (by kernel_rfl) (by kernel_rfl) (by kernel_rfl) (fun _ _ _ h => h) (by rfl) ?_ (by assumption) ?_
        rotate_left
        · intro w hSw; (try dsimp only at hSw); go_simp; (try with_reducible rfl)
        (try simp only [Act.put, sM11, List.setIfInBounds_toArray, List.set_cons_zero, List.set_cons_succ])
        refine tkW (v := ?_) 12 sM12 rfl (by kernel_rfl) (by kernel_rfl) (by kernel_rfl) (fun _ _ _ h => h) (by rfl) ?_ (by assumption) ?_
        rotate_left
        · intro w hSw; (try dsimp only at hSw); go_simp; (try with_reducible rfl)
        (try simp only [Act.put, sM12, List.setIfInBounds_toArray, List.set_cons_zero, List.set_cons_succ])
        refine tkE 13 sM13 rfl (by kernel_rfl) (fun K hK => ?_)
        go_simp
        (refine (IH.out _ HU1.out (KW0.out.trans (by first | exact Kp.refl _ | exact Kp.drew _)) (CNL.out.kp (by first | exact Kp.refl _ | exact Kp.drew _)) (CGL.out.kp (by first | exact Kp.refl _ | exact Kp.drew _)) HB1.out HB2.out).mono ?_; rintro e w5 ⟨rfl, kx5, cv5, cn5, h5, h6⟩; have k2 : KX (fun b => b = BN) wr w5 := (KX.kp (by first | exact Kp.refl _ | exact Kp.drew _)).trans kx5)
        (try go_wp2_with fail)
        refine hK.out _ _ ?_ (fun hHeld1 => ?_)
        · (try dsimp only); exact KS.out _ (by first | exact KX.refl _ _ | exact KX.kp (Kp.drew _) | assumption)
        clear hK K hHeld0
        (try simp only [Act.put, sM13, List.setIfInBounds_toArray, List.set_cons_zero, List.set_cons_succ])
        refine tkW (v := ?_) 14 sM14 rfl (by kernel_rfl) (by kernel_rfl) (by kernel_rfl) (fun _ _ _ h => h) (by rfl) ?_ (by assumption) ?_
        rotate_left
        · intro w hSw; (try dsimp only at hSw); go_simp; (try with_reducible rfl)
        (try simp only [Act.put, sM14, List.setIfInBounds_toArray, List.set_cons_zero, List.set_cons_succ])
        refine wpAnyH_done (by kernel_rfl) ?_ _
        have KL5 := Lib.hid (KL.out.trans k2)
        have KM5 := Lib.hid (KM.out.trans k2)
        have LN5 := Lib.hid (show ∃ cv : Int, Cel w5 BN 3 (.int .i64 cv) ∧ nd ≤ cv ∧ cv ≤ nd + 1 + (cntL (l.take (i + 1)) : Int) from ⟨cv5, cn5, by omega, HC5.out cv5 h6⟩)
        clear e0 e1 e2 e3 e4 e5 e6 e7 d0 d1 d2 d3 d4 d5 d6 d7 ga gb gf
        cases sb with
        | true =>
          go_wp2
          go_roundw
          case rel => exact ⟨i + 1, HLT.out, by go_num, KL5, LN5, KM5, Lib.hid (fun x hx => by
            by_cases hxi : x < i
            · exact LO.out x hxi
            · obtain rfl : x = i := by omega
              rw [NTH.out, NTZ.out]; exact HSB.out)⟩
          case measure => have := HLT.out; simp [intOf]; omega
        | false =>
          obtain rfl : res = false := by
            cases res with
            | false => rfl
            | true => exact absurd (SAB.out rfl) (by decide)
          obtain ⟨cv6, q1, q2, q3⟩ := LN5.out
          have tk := cntL_le (l := l) (i + 1)
          have KLE := KL5.out
          go_wp2
          go_ret
          exact ⟨rfl, KLE, cv6, q1, q2, by omega⟩
      · obtain rfl : i = l.length := by omega
        obtain rfl : res = true := SA.out.2 LO.out
        obtain ⟨cv, LNE, c1, c2⟩ := LN.out
        rw [List.take_length] at c2
        have KLE := KL.out
        go_wp2
        go_ret
        exact ⟨rfl, KLE, cv, LNE, c1, by omega⟩
end Go.Proofs.YtndmohamjffpcaaDoor

namespace Go.Proofs.YtndmohamjffpcaaDoor
open Go.RowKit
set_option linter.unusedVariables false
set_option linter.unusedSimpArgs false
theorem shortL_all : ∀ l : List ND, shortL l = l.all shortN
  | [] => rfl
  | x :: l => by simp [shortL, shortL_all l]
set_option maxHeartbeats 16000000 in
set_option maxRecDepth 100000 in
theorem tSame_any (n n2 : ND) (v u : Value) (w : World) (h : NodesAt w v n.l) (hu : NodesAt w u n2.l) (hn : cntN n ≤ 1000) :
    Calls Tryd.prog 13 #[ndV n v, ndV n2 u] w fun e w' => e = .returned (.bool (sameN n n2)) ∧ Kp w w' := by
  have hmf : ∀ (fn : Fn) (first cap : Array Value) (w : World), (Instr.makeFunc fn first cap).run Tryd.prog w = .ok (.func fn first cap) w := fun _ _ _ _ => rfl
  have IH := fun BN BF h1 b1 => isSame_any w BN BF h1 b1 h
  have HU := Lib.hid hu
  obtain ⟨ad, cp, rfl⟩ := h.slice
  obtain ⟨ad', cp', rfl⟩ := hu.slice
  obtain ⟨k, pk, y, m, q, a, t, l, rfl⟩ := nd_dest n
  obtain ⟨k', pk', y', m', q', a', t', l', rfl⟩ := nd_dest n2
  have hn1 : cntL l + 1 ≤ 1000 := hn
  have IH2 := fun BN BF h1 b1 => IH BN BF h1 b1 k ⟨pk, y, m, q⟩ a t (.mk k' ⟨pk', y', m', q'⟩ a' t' l') (.slice ad' l'.length cp') 0 0
  obtain ⟨res, hres⟩ : ∃ r, sameN (.mk k ⟨pk, y, m, q⟩ a t l) (.mk k' ⟨pk', y', m', q'⟩ a' t' l') = r := ⟨_, rfl⟩
  simp only [ND.l] at IH2
  rw [hres] at IH2 ⊢
  have IHH := Lib.hid IH2
  unfold ndV at *
  simp only [ND.k, ND.p, ND.a, ND.t, ND.l] at IHH HU ⊢
  clear h hu hn IH IH2 hres
  go_enter Tryd.func13, Tryd.ntmps13
  go_wp2_with fail
  obtain ⟨W1, hW1⟩ : ∃ x, x = (w.alloc (.cells #[.int .i64 k, .int .i64 pk, .string y, .string m, .string q, .bool a, .bool t, .slice ad l.length cp] 26)).alloc (.cells #[.int .i64 k', .int .i64 pk', .string y', .string m', .string q', .bool a', .bool t', .slice ad' l'.length cp'] 26) := ⟨_, rfl⟩
  have z1 : W1.heap.size = w.heap.size + 1 + 1 := by rw [hW1]; simp
  have k1 : Kp w W1 := by rw [hW1]; exact (Kp.alloc _ _).trans (Kp.alloc _ _)
  rw [← hW1]
  obtain ⟨W2, hW2⟩ : ∃ x, x = W1.alloc (.cells #[.int .i64 0] 3) := ⟨_, rfl⟩
  have z2 : W2.heap.size = w.heap.size + 1 + 1 + 1 := by rw [hW2]; simp [z1]
  have k2 : Kp W1 W2 := by rw [hW2]; exact Kp.alloc _ _
  have c2 : Cel W2 (w.heap.size + 1 + 1) 3 (.int .i64 0) := by rw [hW2]; exact heap_at _ _ _ z1
  rw [← hW2]
  obtain ⟨W3, hW3⟩ : ∃ x, x = W2.alloc (.cells #[.func (.func 27) #[] #[.pointer (some ⟨w.heap.size + 1 + 1, 0, none⟩), .pointer (some ⟨w.heap.size + 1 + 1 + 1, 0, none⟩)]] 58) := ⟨_, rfl⟩
  have k3 : Kp W2 W3 := by rw [hW3]; exact Kp.alloc _ _
  have f3 : Cel W3 (w.heap.size + 1 + 1 + 1) 58 (.func (.func 27) #[] #[.pointer (some ⟨w.heap.size + 1 + 1, 0, none⟩), .pointer (some ⟨w.heap.size + 1 + 1 + 1, 0, none⟩)]) := by rw [hW3]; exact heap_at _ _ _ z2
  rw [← hW3]
  have kk : Kp w W3 := k1.trans (k2.trans k3)
  refine (IHH.out (w.heap.size + 1 + 1) (w.heap.size + 1 + 1 + 1) (by omega) (by omega) W3 HU.out kk (c2.kp k3) f3 (by omega) (by omega)).mono ?_
  rintro e w5 ⟨rfl, kx5, _⟩
  have K5 := Lib.hid (kx5.to kk (fun b h => by omega))
  clear kx5 hW1 hW2 hW3 k1 k2 k3 c2 f3 kk
  go_wp2
  go_ret
  exact ⟨rfl, K5.out⟩
set_option maxHeartbeats 16000000 in
set_option maxRecDepth 100000 in
theorem rCount_any (w0 : World) : ∀ {v : Value} {l : List ND}, NodesAt w0 v l → ∀ (k : Int) (p : PT) (a t : Bool) (w : World), Kp w0 w → cntL l ≤ 2000000 →
      Calls Tryd.prog 19 #[ndV (.mk k p a t l) v] w fun e w' => e = .returned (.int .i64 (cntN (.mk k p a t l))) ∧ Kp w w' := by
  refine @NodesAt.ind w0 (fun v l => ∀ (k : Int) (p : PT) (a t : Bool) (w : World), Kp w0 w → cntL l ≤ 2000000 →
      Calls Tryd.prog 19 #[ndV (.mk k p a t l) v] w fun e w' => e = .returned (.int .i64 (cntN (.mk k p a t l))) ∧ Kp w w') ?_
  rintro v l ⟨ad, cp, rfl, hrow⟩ k p a t w k0 hl
  have ll := len_cntL l
  obtain ⟨pk, y, m, q⟩ := p
  have HR := Lib.hid hrow
  unfold ndV at *
  simp only [ND.k, ND.p, ND.a, ND.t] at *
  obtain ⟨W0, hW⟩ : ∃ x, x = w.alloc (.cells #[.int .i64 k, .int .i64 pk, .string y, .string m, .string q, .bool a, .bool t, .slice ad l.length cp] 26) := ⟨_, rfl⟩
  have kw : Kp w W0 := by rw [hW]; exact Kp.alloc _ _
  have gB : W0.heap[w.heap.size]? = some (.cells #[.int .i64 k, .int .i64 pk, .string y, .string m, .string q, .bool a, .bool t, .slice ad l.length cp] 26 (0, 0)) := by rw [hW]; exact heap_at _ _ _ rfl
  have KW := Lib.hid kw
  have K0W := Lib.hid (k0.trans kw)
  have GB := Lib.hid (fun w1 (q : Kp W0 w1) => heap_block q gB)
  have HW := Lib.hid hW
  clear hrow k0 kw gB hW
  have ec : (cntN (.mk k ⟨pk, y, m, q⟩ a t l) : Int) = 1 + (cntL l : Int) := by simp only [cntN]; omega
  rw [ec]
  clear ec
  go_enter Tryd.func19, Tryd.ntmps19
  go_wp2_with fail
  rw [← HW.out]
  obtain ⟨_, _, _, _, _, _, _, x7⟩ := row8 (GB.out _ (Kp.refl _))
  go_wp2
  go_loopw [3, 4] (fun s i ws => ∃ j : Nat, j ≤ l.length ∧ i = .int .i64 j ∧ s = .int .i64 (1 + (cntL (l.take j) : Int)) ∧ Hid (Kp W0 ws)) (fun _ i _ => l.length - (intOf i).toNat)
  case atStart => exact ⟨0, Nat.zero_le _, rfl, by simp [cntL], Lib.hid (Kp.refl _)⟩
  case round =>
    clear x7
    obtain ⟨j, hj, rfl, rfl, KL⟩ := hrel
    by_cases hlt : j < l.length
    · obtain ⟨bk, off, rfl, hall⟩ := HR.out (by omega)
      obtain ⟨vi, hrow, hsub, ih⟩ := hall j hlt
      have kw0 : Kp w0 wr := K0W.out.trans KL.out
      obtain ⟨e0, e1, e2, e3, e4, e5, e6, e7⟩ := hrow.kp kw0
      have KW0 := Lib.hid kw0
      have ca := cnt_at hlt
      have ct := cntL_take hlt
      clear hall
      obtain ⟨x, hx⟩ : ∃ x, nth l j = x := ⟨_, rfl⟩
      rw [hx] at e0 e1 e2 e3 e4 e5 e6 ca ct ih hsub
      have NTH := Lib.hid hx
      clear hx hrow
      obtain ⟨k1, ⟨pk1, y1, m1, q1⟩, a1, t1, l1⟩ := x
      simp only [ND.k, ND.p, ND.a, ND.t, ND.l] at e0 e1 e2 e3 e4 e5 e6 ih hsub
      obtain ⟨ad1, cp1, rfl⟩ := hsub.slice
      have cc1 : cntN (.mk k1 ⟨pk1, y1, m1, q1⟩ a1 t1 l1) = cntL l1 + 1 := rfl
      have IHc := ih k1 ⟨pk1, y1, m1, q1⟩ a1 t1
      (try unfold ndV at IHc)
      simp only [ND.k, ND.p, ND.a, ND.t, ND.l] at IHc
      have IH := Lib.hid IHc
      have HC1 := Lib.hid (show cntL l1 ≤ 2000000 by omega)
      obtain ⟨_, _, _, _, _, _, _, x7⟩ := row8 (GB.out _ KL.out)
      have z1 : (j : Int) < (l.length : Int) := by omega
      have z3 : (0 : Int) ≤ (j : Int) := by omega
      have HLT := Lib.hid hlt
      clear kw0 ih hsub IHc
      go_wp2_with fail
      refine (IH.out _ KW0.out HC1.out).mono ?_
      rintro e w5 ⟨rfl, kk⟩
      have KL5 := Lib.hid (KL.out.trans kk)
      clear kk e0 e1 e2 e3 e4 e5 e6 e7 x7
      go_wp2
      go_roundw
      case rel => exact ⟨j + 1, HLT.out, by go_num, by rw [ct]; first | go_num | (congr 1; omega), KL5⟩
      case measure => have := HLT.out; simp [intOf]; omega
    · obtain rfl : j = l.length := by omega
      rw [List.take_length]
      obtain ⟨_, _, _, _, _, _, _, x7⟩ := row8 (GB.out _ KL.out)
      go_wp2
      go_ret
      exact ⟨rfl, KW.out.trans KL.out⟩
set_option maxHeartbeats 16000000 in
set_option maxRecDepth 100000 in
theorem rshort_any (w0 : World) : ∀ {v : Value} {l : List ND}, NodesAt w0 v l → ∀ (k : Int) (p : PT) (a t : Bool) (w : World), Kp w0 w → cntL l ≤ 2000000 →
      Calls Tryd.prog 20 #[ndV (.mk k p a t l) v] w fun e w' => e = .returned (.bool (shortN (.mk k p a t l))) ∧ Kp w w' := by
  refine @NodesAt.ind w0 (fun v l => ∀ (k : Int) (p : PT) (a t : Bool) (w : World), Kp w0 w → cntL l ≤ 2000000 →
      Calls Tryd.prog 20 #[ndV (.mk k p a t l) v] w fun e w' => e = .returned (.bool (shortN (.mk k p a t l))) ∧ Kp w w') ?_
  rintro v l ⟨ad, cp, rfl, hrow⟩ k p a t w k0 hl
  have ll := len_cntL l
  obtain ⟨pk, y, m, q⟩ := p
  have HR := Lib.hid hrow
  unfold ndV at *
  simp only [ND.k, ND.p, ND.a, ND.t] at *
  obtain ⟨W0, hW⟩ : ∃ x, x = w.alloc (.cells #[.int .i64 k, .int .i64 pk, .string y, .string m, .string q, .bool a, .bool t, .slice ad l.length cp] 26) := ⟨_, rfl⟩
  have kw : Kp w W0 := by rw [hW]; exact Kp.alloc _ _
  have gB : W0.heap[w.heap.size]? = some (.cells #[.int .i64 k, .int .i64 pk, .string y, .string m, .string q, .bool a, .bool t, .slice ad l.length cp] 26 (0, 0)) := by rw [hW]; exact heap_at _ _ _ rfl
  have KW := Lib.hid kw
  have K0W := Lib.hid (k0.trans kw)
  have GB := Lib.hid (fun w1 (q : Kp W0 w1) => heap_block q gB)
  have HW := Lib.hid hW
  clear hrow k0 kw gB hW
  have es : shortN (.mk k ⟨pk, y, m, q⟩ a t l) = ((decide (y.size ≤ 10) && (decide (m.size ≤ 10) && decide (q.size ≤ 10))) && shortL l) := by simp only [shortN]
  rw [es]
  clear es
  by_cases hy : y.size ≤ 10
  · have y1 : decide (10 < (y.size : Int)) = false := decide_eq_false (by omega)
    rw [decide_eq_true hy, Bool.true_and]
    by_cases hm : m.size ≤ 10
    · have m1 : decide (10 < (m.size : Int)) = false := decide_eq_false (by omega)
      rw [decide_eq_true hm, Bool.true_and]
      by_cases hq : q.size ≤ 10
      · have q1 : decide (10 < (q.size : Int)) = false := decide_eq_false (by omega)
        rw [decide_eq_true hq, Bool.true_and]
        have SA := Lib.hid (shortL_all l)
        obtain ⟨res, hres⟩ : ∃ r, shortL l = r := ⟨_, rfl⟩
        rw [hres] at SA ⊢
        clear hres hy hm hq
        go_enter Tryd.func20, Tryd.ntmps20
        go_wp2_with fail
        rw [← HW.out]
        obtain ⟨_, _, x2, x3, x4, _, _, x7⟩ := row8 (GB.out _ (Kp.refl _))
        go_wp2
        go_loopw [3] (fun i ws => ∃ j : Nat, j ≤ l.length ∧ i = .int .i64 j ∧ Hid (Kp W0 ws) ∧ Hid (∀ x, x < j → shortN (nth l x) = true)) (fun i _ => l.length - (intOf i).toNat)
        case atStart => exact ⟨0, Nat.zero_le _, rfl, Lib.hid (Kp.refl _), Lib.hid (fun x hx => by omega)⟩
        case round =>
          clear x2 x3 x4 x7
          obtain ⟨j, hj, rfl, KL, LO⟩ := hrel
          by_cases hlt : j < l.length
          · obtain ⟨bk, off, rfl, hall⟩ := HR.out (by omega)
            obtain ⟨vi, hrow, hsub, ih⟩ := hall j hlt
            have kw0 : Kp w0 wr := K0W.out.trans KL.out
            obtain ⟨e0, e1, e2, e3, e4, e5, e6, e7⟩ := hrow.kp kw0
            have KW0 := Lib.hid kw0
            have ca := cnt_at hlt
            have ct := cntL_take hlt
            clear hall
            obtain ⟨x, hx⟩ : ∃ x, nth l j = x := ⟨_, rfl⟩
            rw [hx] at e0 e1 e2 e3 e4 e5 e6 ca ct ih hsub
            have NTH := Lib.hid hx
            clear hx hrow
            obtain ⟨k1, ⟨pk1, y1', m1', q1'⟩, a1, t1, l1⟩ := x
            simp only [ND.k, ND.p, ND.a, ND.t, ND.l] at e0 e1 e2 e3 e4 e5 e6 ih hsub
            obtain ⟨ad1, cp1, rfl⟩ := hsub.slice
            have cc1 : cntN (.mk k1 ⟨pk1, y1', m1', q1'⟩ a1 t1 l1) = cntL l1 + 1 := rfl
            have IHc := ih k1 ⟨pk1, y1', m1', q1'⟩ a1 t1
            (try unfold ndV at IHc)
            simp only [ND.k, ND.p, ND.a, ND.t, ND.l] at IHc
            have IH := Lib.hid IHc
            have HC1 := Lib.hid (show cntL l1 ≤ 2000000 by omega)
            obtain ⟨_, _, _, _, _, _, _, x7⟩ := row8 (GB.out _ KL.out)
            have z1 : (j : Int) < (l.length : Int) := by omega
            have z3 : (0 : Int) ≤ (j : Int) := by omega
            have HLT := Lib.hid hlt
            clear kw0 ih hsub IHc
            obtain ⟨sb, hsb⟩ : ∃ r, shortN (.mk k1 ⟨pk1, y1', m1', q1'⟩ a1 t1 l1) = r := ⟨_, rfl⟩
            have IHd := IH.out
            rw [hsb] at IHd
            have IH := Lib.hid IHd
            have HSB := Lib.hid hsb
            clear IHd hsb
            go_wp2_with fail
            refine (IH.out _ KW0.out HC1.out).mono ?_
            rintro e w5 ⟨rfl, kk⟩
            have KL5 := Lib.hid (KL.out.trans kk)
            clear kk e0 e1 e2 e3 e4 e5 e6 e7 x7
            cases sb with
            | true =>
              go_wp2
              go_roundw
              case rel => exact ⟨j + 1, HLT.out, by go_num, KL5, Lib.hid (fun x hx => by
                by_cases hxj : x < j
                · exact LO.out x hxj
                · obtain rfl : x = j := by omega
                  rw [NTH.out]; exact HSB.out)⟩
              case measure => have := HLT.out; simp [intOf]; omega
            | false =>
              obtain rfl : res = false := by
                rw [SA.out]
                rcases Bool.eq_false_or_eq_true (l.all shortN) with h | h
                · have := List.all_eq_true.1 h _ (nth_mem HLT.out)
                  rw [NTH.out, HSB.out] at this
                  cases this
                · exact h
              go_wp2
              go_ret
              exact ⟨rfl, KW.out.trans KL5.out⟩
          · obtain rfl : j = l.length := by omega
            obtain rfl : res = true := by
              rw [SA.out, List.all_eq_true]
              intro x hx
              obtain ⟨i, hi, rfl⟩ := List.getElem_of_mem hx
              have := LO.out i hi
              have en : nth l i = l[i] := by unfold nth; simp [List.getD, hi]
              rw [← en]; exact this
            obtain ⟨_, _, _, _, _, _, _, x7⟩ := row8 (GB.out _ KL.out)
            go_wp2
            go_ret
            exact ⟨rfl, KW.out.trans KL.out⟩
      · have q1 : decide (10 < (q.size : Int)) = true := decide_eq_true (by omega)
        rw [decide_eq_false hq, Bool.false_and]
        go_enter Tryd.func20, Tryd.ntmps20
        go_wp2_with fail
        rw [← HW.out]
        obtain ⟨_, _, x2, x3, x4, _, _, x7⟩ := row8 (GB.out _ (Kp.refl _))
        go_wp2
        go_ret
        exact ⟨rfl, KW.out⟩
    · have m1 : decide (10 < (m.size : Int)) = true := decide_eq_true (by omega)
      rw [decide_eq_false hm, Bool.false_and, Bool.false_and]
      go_enter Tryd.func20, Tryd.ntmps20
      go_wp2_with fail
      rw [← HW.out]
      obtain ⟨_, _, x2, x3, x4, _, _, x7⟩ := row8 (GB.out _ (Kp.refl _))
      go_wp2
      go_ret
      exact ⟨rfl, KW.out⟩
  · have y1 : decide (10 < (y.size : Int)) = true := decide_eq_true (by omega)
    rw [decide_eq_false hy, Bool.false_and, Bool.false_and]
    go_enter Tryd.func20, Tryd.ntmps20
    go_wp2_with fail
    rw [← HW.out]
    obtain ⟨_, _, x2, x3, x4, _, _, x7⟩ := row8 (GB.out _ (Kp.refl _))
    go_wp2
    go_ret
    exact ⟨rfl, KW.out⟩
set_option maxHeartbeats 16000000 in
set_option maxRecDepth 100000 in
theorem rfewN_any (n : ND) (v : Value) (w : World) (h : NodesAt w v n.l) (hn : cntL n.l ≤ 2000000) :
    Calls Tryd.prog 9 #[ndV n v] w fun e w' => e = .returned (.bool (fewN n)) ∧ Kp w w' := by
  have C1 := fun w1 (q : Kp w w1) => rCount_any w h n.k n.p n.a n.t w1 q hn
  have C2 := fun w1 (q : Kp w w1) => rshort_any w h n.k n.p n.a n.t w1 q hn
  rw [← eta_nd n] at C1 C2
  obtain ⟨cm, hcm⟩ : ∃ x : Nat, cntN n = x := ⟨_, rfl⟩
  have hb : cm ≤ 2000001 := by rw [← hcm, cntN_mk]; omega
  unfold fewN
  rw [hcm] at C1 ⊢
  generalize shortN n = sb at *
  obtain ⟨ad, cp, rfl⟩ := h.slice
  obtain ⟨k, pk, y, m, q, a, t, l, rfl⟩ := nd_dest n
  have C1H := Lib.hid C1
  have C2H := Lib.hid C2
  unfold ndV at *
  simp only [ND.k, ND.p, ND.a, ND.t, ND.l] at C1H C2H ⊢
  clear h C1 C2 hcm hn
  have ed : decide (cm ≤ 120) = decide ((cm : Int) ≤ 120) := by congr 1; apply propext; omega
  rw [ed]
  obtain ⟨cb, hcb⟩ : ∃ b, decide ((cm : Int) ≤ 120) = b := ⟨_, rfl⟩
  rw [hcb]
  clear ed
  cases cb with
  | false =>
    rw [Bool.false_and]
    go_enter Tryd.func9, Tryd.ntmps9
    go_wp2_with fail
    refine (C1H.out _ (Kp.alloc _ _)).mono ?_
    rintro e w1 ⟨rfl, kk⟩
    have K1 := Lib.hid ((Kp.alloc _ _).trans kk)
    clear kk
    go_wp2
    go_ret
    exact ⟨rfl, K1.out⟩
  | true =>
    rw [Bool.true_and]
    go_enter Tryd.func9, Tryd.ntmps9
    go_wp2_with fail
    refine (C1H.out _ (Kp.alloc _ _)).mono ?_
    rintro e w1 ⟨rfl, kk⟩
    have K1 := Lib.hid ((Kp.alloc _ _).trans kk)
    obtain ⟨x0, x1, x2, x3, x4, x5, x6, x7⟩ := row8 (heap_block kk (heap_at w (.cells #[.int .i64 k, .int .i64 pk, .string y, .string m, .string q, .bool a, .bool t, .slice ad l.length cp] 26) w.heap.size rfl))
    clear kk
    go_wp2_with fail
    refine (C2H.out _ K1.out).mono ?_
    rintro e w2 ⟨rfl, kk⟩
    have K2 := Lib.hid (K1.out.trans kk)
    clear kk
    go_wp2
    go_ret
    exact ⟨rfl, K2.out⟩
end Go.Proofs.YtndmohamjffpcaaDoor

namespace Go.Proofs.YtndmohamjffpcaaDoor
open Go.RowKit
set_option linter.unusedVariables false
set_option linter.unusedSimpArgs false
def b84 : ByteArray := ⟨#[49, 57, 56, 52]⟩
def pt0 : PT := ⟨0, ⟨#[]⟩, ⟨#[]⟩, ⟨#[]⟩⟩
def n84 : ND := .mk 0 ⟨3, b84, ⟨#[]⟩, ⟨#[]⟩⟩ false true []
def nK3 : ND := .mk 3 pt0 false false []
def nBt : ND := .mk 1 pt0 false false [n84, nK3]
def nOr : ND := .mk 2 pt0 false false [nBt]
def nOr0 : ND := .mk 2 pt0 false false []
theorem sane_nBt : saneN saneP nBt = true := by decide +kernel
theorem sane_nOr0 : saneN saneP nOr0 = false := by decide +kernel
theorem cnt_nBt : cntN nBt = 3 := by decide +kernel
theorem cnt_nOr0 : cntN nOr0 = 1 := by decide +kernel
theorem cnt_nOr : cntN nOr = 4 := by decide +kernel
theorem dep_nOr : depN nOr = 1 := by decide +kernel
theorem end_n84 : endN saneP n84 = true := by decide +kernel
theorem cells_ndV (W : World) (n : ND) (b : Nat) (v : Value) (h : W.heap[b]? = some (.cells #[.int .i64 n.k, .int .i64 n.p.k, .string n.p.y, .string n.p.m, .string n.p.d, .bool n.a, .bool n.t, v] 26 (0, 0))) : RowN W b 0 n v := by
  obtain ⟨x0, x1, x2, x3, x4, x5, x6, x7⟩ := row8 h
  exact ⟨x0, x1, x2, x3, x4, x5, x6, x7⟩
end Go.Proofs.YtndmohamjffpcaaDoor

namespace Go.Proofs.YtndmohamjffpcaaDoor
open Go.RowKit Go.ChangeShapes Go.WideShapes Go.Deep Go.Joins
set_option linter.unusedVariables false
set_option linter.unusedSimpArgs false
instance instND : Inhabited ND := ⟨nd0⟩
mutual
/-- a node's weight: its nodes, and the letters of its points -/
def wgtN : ND → Nat
  | .mk _ p _ _ l => p.y.size + p.m.size + p.d.size + 1 + wgtL l
def wgtL : List ND → Nat
  | [] => 0
  | x :: l => wgtN x + wgtL l
end
mutual
theorem cnt_wgt : ∀ n : ND, cntN n ≤ wgtN n
  | .mk _ _ _ _ l => by simp only [cntN, wgtN]; have := cnt_wgtL l; omega
theorem cnt_wgtL : ∀ l : List ND, cntL l ≤ wgtL l
  | [] => by simp [cntL]
  | x :: l => by simp only [cntL, wgtL]; have := cnt_wgt x; have := cnt_wgtL l; omega
end
theorem wgt_sum {H : Type} (T : Nat → ND) (D : Nat → DataW H) : ∀ n, (∀ i, i < n → wgtN (T i) ≤ Rows.uptoBulk (D i)) → wgtL ((List.range n).map T) ≤ Rows.uptoBulkAll ((List.range n).map D) := by
  have app : ∀ a b : List ND, wgtL (a ++ b) = wgtL a + wgtL b := by
    intro a b
    induction a with
    | nil => simp [wgtL]
    | cons x a ih => simp [wgtL, ih, Nat.add_assoc]
  have appD : ∀ a b : List (DataW H), Rows.uptoBulkAll (a ++ b) = Rows.uptoBulkAll a + Rows.uptoBulkAll b := by
    intro a b
    induction a with
    | nil => simp [Rows.uptoBulkAll]
    | cons x a ih => simp [Rows.uptoBulkAll, ih, Nat.add_assoc]
  intro n
  induction n with
  | zero => intro _; simp [wgtL]
  | succ n ih =>
    intro h
    rw [List.range_succ, List.map_append, List.map_append, app, appD]
    have h1 := ih (fun i hi => h i (by omega))
    have h2 := h n (by omega)
    simp only [List.map_cons, List.map_nil, wgtL, Rows.uptoBulkAll]
    omega
theorem bulk_mem {H : Type} {d : DataW H} {l : List (DataW H)} (h : d ∈ l) : Rows.uptoBulk d ≤ Rows.uptoBulkAll l := by
  induction l with
  | nil => cases h
  | cons x r ih =>
    simp only [Rows.uptoBulkAll]
    rcases List.mem_cons.1 h with rfl | h
    · omega
    · have := ih h; omega
theorem ndGL_of {l : List ND} (h : ∀ x ∈ l, ndG x) : ndGL l := by
  induction l with
  | nil => trivial
  | cons x l ih => exact ⟨h x (by simp), ih fun y hy => h y (by simp [hy])⟩
section
variable {H : Type} {enc : TypeId × Value → H} {W : World} {v : Value} {d : DataW H} {p : List MemPlace} {base : Nat}
theorem cells_b1 : Tryd.prog.cellsOf 4 = 1 := by kernel_rfl
theorem cells_nd : Tryd.prog.cellsOf 26 = 8 := by kernel_rfl
theorem cells_nds : Tryd.prog.cellsOf 24 = 1 := by kernel_rfl
set_option maxRecDepth 100000 in
theorem point_read {fuel : Nat} {L : List Value} {y : DataW H × List MemPlace} (h : DataW.trod enc Tryd.prog W 0 (fun _ => true) true fuel 23 L = some y) :
    ∃ q : PT, L = [.int .i64 q.k, .string q.y, .string q.m, .string q.d] ∧ -9223372036854775808 ≤ q.k ∧ q.k ≤ 9223372036854775807 ∧ q.y.size + q.m.size + q.d.size + 1 ≤ Rows.uptoBulk y.1 := by
  obtain ⟨xs, k', hk, hxy, hlen, hxl, hf'⟩ := DataW.trod_struct Tryd.underlying23 h
  rw [cells_pt] at hlen
  match xs, hxl, L, hlen with
  | [y0, y1, y2, y3], _, [v0, v1, v2, v3], _ =>
    have g0 := hf' 0 _ rfl
    have g1 := hf' 1 _ rfl
    have g2 := hf' 2 _ rfl
    have g3 := hf' 3 _ rfl
    simp [cells_i1, cells_s1] at g0 g1 g2 g3
    obtain ⟨x0, q0, e0, w0⟩ := DataW.trod_int Tryd.underlying3 g0
    obtain ⟨x1, q1, e1, _⟩ := DataW.trod_string Tryd.underlying9 g1
    obtain ⟨x2, q2, e2, _⟩ := DataW.trod_string Tryd.underlying9 g2
    obtain ⟨x3, q3, e3, _⟩ := DataW.trod_string Tryd.underlying9 g3
    subst e0 e1 e2 e3
    simp only [List.cons.injEq, and_true] at q0 q1 q2 q3
    subst q0 q1 q2 q3
    refine ⟨⟨x0, x1, x2, x3⟩, rfl, (wf_bd w0).1, (wf_bd w0).2, ?_⟩
    rw [hxy]
    simp only [List.map_cons, List.map_nil, Rows.uptoBulk, Rows.uptoBulkAll]
    rw [show x1.data.toList.length = x1.size from rfl, show x2.data.toList.length = x2.size from rfl, show x3.data.toList.length = x3.size from rfl]
    omega
set_option maxRecDepth 100000 in
theorem node_read {N : Nat} (IH : ∀ (fuel : Nat) (v : Value) (y : DataW H × List MemPlace), Rows.uptoBulk y.1 < N → DataW.trod enc Tryd.prog W 0 (fun _ => true) true fuel 24 [v] = some y → ∃ l, NodesAt W v l ∧ ndGL l ∧ wgtL l + 1 ≤ Rows.uptoBulk y.1)
    {fuel : Nat} {L : List Value} {y : DataW H × List MemPlace} (hN : Rows.uptoBulk y.1 ≤ N) (h : DataW.trod enc Tryd.prog W 0 (fun _ => true) true fuel 26 L = some y) :
    ∃ (n : ND) (v : Value), L = [.int .i64 n.k, .int .i64 n.p.k, .string n.p.y, .string n.p.m, .string n.p.d, .bool n.a, .bool n.t, v] ∧ NodesAt W v n.l ∧ ndG n ∧ wgtN n ≤ Rows.uptoBulk y.1 := by
  obtain ⟨xs, k', hk, hxy, hlen, hxl, hf'⟩ := DataW.trod_struct Tryd.underlying26 h
  rw [cells_nd] at hlen
  match xs, hxl, L, hlen with
  | [y0, y1, y2, y3, y4], _, [v0, v1, v2, v3, v4, v5, v6, v7], _ =>
    have g0 := hf' 0 _ rfl
    have g1 := hf' 1 _ rfl
    have g2 := hf' 2 _ rfl
    have g3 := hf' 3 _ rfl
    have g4 := hf' 4 _ rfl
    simp [cells_i1, cells_b1, cells_pt, cells_nds] at g0 g1 g2 g3 g4
    obtain ⟨x0, q0, e0, w0⟩ := DataW.trod_int Tryd.underlying3 g0
    obtain ⟨q, q1, b0, b1, b2⟩ := point_read g1
    obtain ⟨x2, q2, e2⟩ := DataW.trod_bool Tryd.underlying4 g2
    obtain ⟨x3, q3, e3⟩ := DataW.trod_bool Tryd.underlying4 g3
    have bk : Rows.uptoBulk y.1 = Rows.uptoBulk y0.1 + (Rows.uptoBulk y1.1 + (Rows.uptoBulk y2.1 + (Rows.uptoBulk y3.1 + Rows.uptoBulk y4.1))) + 1 := by
      rw [hxy]
      simp [Rows.uptoBulk, Rows.uptoBulkAll]
    obtain ⟨l, hl, hg, hw⟩ := IH _ _ _ (by omega) g4
    simp only [List.cons.injEq, and_true] at q0 q1 q2 q3
    obtain ⟨r0, r1, r2, r3⟩ := q1
    subst q0 q2 q3 r0 r1 r2 r3
    refine ⟨.mk x0 q x2 x3 l, v7, rfl, hl, ⟨⟨(wf_bd w0).1, (wf_bd w0).2, b0, b1⟩, hg⟩, ?_⟩
    simp only [wgtN]
    omega
set_option maxRecDepth 100000 in
theorem nodes_trod : ∀ (N fuel : Nat) (v : Value) (y : DataW H × List MemPlace), Rows.uptoBulk y.1 < N → DataW.trod enc Tryd.prog W 0 (fun _ => true) true fuel 24 [v] = some y → ∃ l, NodesAt W v l ∧ ndGL l ∧ wgtL l + 1 ≤ Rows.uptoBulk y.1 := by
  intro N
  induction N with
  | zero => intro _ _ _ h; omega
  | succ N IH =>
    intro fuel v y hN hf
    rcases open_slice Tryd.underlying24 hf with ⟨hc, rfl⟩ | ⟨a, ln, cp, m, k, D, Pl, hc, _, hl, hm, hmm, rfl, hall⟩
    · simp at hc
      subst hc
      exact ⟨[], .none _ _, trivial, by simp [wgtL, Rows.uptoBulk]⟩
    · simp at hc
      subst hc
      simp only [if_true] at hmm
      subst hmm
      simp only [Rows.uptoBulk] at hN ⊢
      by_cases h0 : ln = 0
      · subst h0
        exact ⟨[], .none _ _, trivial, by simp [wgtL]⟩
      · have each : ∀ i, i < ln → ∃ n : ND, (∃ u, (∃ cs', W.cells? 0 (a.add (i * 8)) 8 = some cs' ∧ cs' = [.int .i64 n.k, .int .i64 n.p.k, .string n.p.y, .string n.p.m, .string n.p.d, .bool n.a, .bool n.t, u]) ∧ NodesAt W u n.l) ∧ ndG n ∧ wgtN n ≤ Rows.uptoBulk (D i) := by
          intro i hi
          obtain ⟨cs', h1, h2⟩ := hall i (by omega)
          rw [cells_nd] at h1
          have hb : Rows.uptoBulk (D i) ≤ N := by
            have := bulk_mem (d := D i) (l := (List.range ln).map D) (by simp; exact ⟨i, hi, rfl⟩)
            omega
          obtain ⟨n, u, e, hu, hg, hw⟩ := node_read IH hb h2
          exact ⟨n, ⟨u, ⟨cs', h1, e⟩, hu⟩, hg, hw⟩
        obtain ⟨T, hT⟩ := choose_lt each
        have hU : ∀ i, i < ln → ∃ u, (∃ cs', W.cells? 0 (a.add (i * 8)) 8 = some cs' ∧ cs' = [.int .i64 (T i).k, .int .i64 (T i).p.k, .string (T i).p.y, .string (T i).p.m, .string (T i).p.d, .bool (T i).a, .bool (T i).t, u]) ∧ NodesAt W u (T i).l := fun i hi => (hT i hi).1
        obtain ⟨b, off, sp⟩ := a
        have hs : sp = none := by
          obtain ⟨u, ⟨cs', h1, rfl⟩, _⟩ := hU 0 (by omega)
          obtain ⟨_, hlen, hcell⟩ := World.cells?_some h1
          have e0 := hcell 0 (by omega)
          rw [add_add] at e0
          have e1 : W.cell? (Addr.add ⟨b, off, sp⟩ 0) = some (.int .i64 (T 0).k) := by simpa using e0
          have q := World.cell?_spot e1
          simpa [Addr.add] using q
        subst hs
        have lt : ∀ i, i < ln → nth ((List.range ln).map T) i = T i := fun i hi => by unfold nth; simp [List.getD, hi]
        have hV : ∀ i, ∃ u, i < ln → (RowN W b (off + i * 8) (T i) u ∧ NodesAt W u (T i).l) := by
          intro i
          by_cases hi : i < ln
          · obtain ⟨u, ⟨cs', h1, rfl⟩, hu⟩ := hU i hi
            obtain ⟨_, hlen, hcell⟩ := World.cells?_some h1
            refine ⟨u, fun _ => ⟨?_, hu⟩⟩
            have e0 := hcell 0 (by omega)
            have e1 := hcell 1 (by omega)
            have e2 := hcell 2 (by omega)
            have e3 := hcell 3 (by omega)
            have e4 := hcell 4 (by omega)
            have e5 := hcell 5 (by omega)
            have e6 := hcell 6 (by omega)
            have e7 := hcell 7 (by omega)
            rw [add_add] at e0 e1 e2 e3 e4 e5 e6 e7
            rw [Addr.add_lit] at e0 e1 e2 e3 e4 e5 e6 e7
            exact ⟨by simpa [Nat.add_assoc] using e0, by simpa [Nat.add_assoc] using e1, by simpa [Nat.add_assoc] using e2, by simpa [Nat.add_assoc] using e3, by simpa [Nat.add_assoc] using e4, by simpa [Nat.add_assoc] using e5, by simpa [Nat.add_assoc] using e6, by simpa [Nat.add_assoc] using e7⟩
          · exact ⟨.bool false, fun h => absurd h hi⟩
        obtain ⟨vs, hvs⟩ := Classical.axiomOfChoice hV
        refine ⟨(List.range ln).map T, ?_, ndGL_of fun x hx => ?_, ?_⟩
        · have := NodesAt.row (w := W) ((List.range ln).map T) b off m vs (by simp; omega) (by simpa using hl) hm (fun i hi => by
            have hi' : i < ln := by simpa using hi
            rw [lt i hi']
            exact (hvs i hi').1) (fun i hi => by
            have hi' : i < ln := by simpa using hi
            rw [lt i hi']
            exact (hvs i hi').2)
          simpa using this
        · simp only [List.mem_map, List.mem_range] at hx
          obtain ⟨i, hi, rfl⟩ := hx
          exact (hT i hi).2.1
        · have := wgt_sum T D ln (fun i hi => (hT i hi).2.2)
          omega
set_option maxRecDepth 100000 in
theorem open_nodes (hv : Value.okWide Tryd.prog W .any base 24 v) (h : DataW.Trod enc Tryd.prog W 0 (fun _ => true) true 24 v d p) : ∃ l, NodesAt W v l ∧ ndGL l ∧ wgtL l + 1 ≤ Rows.uptoBulk d := by
  obtain ⟨ad, ln, cp, rfl⟩ := okWide_slice Tryd.underlying24 hv
  obtain ⟨fuel, hf⟩ := h
  exact nodes_trod (Rows.uptoBulk d + 1) fuel _ _ (Nat.lt_succ_self _) hf
set_option maxRecDepth 100000 in
theorem open_node (hv : Value.okWide Tryd.prog W .any base 26 v) (h : DataW.Trod enc Tryd.prog W 0 (fun _ => true) true 26 v d p) : ∃ (n : ND) (u : Value), v = ndV n u ∧ NodesAt W u n.l ∧ ndG n ∧ wgtN n ≤ Rows.uptoBulk d := by
  obtain ⟨cs, rfl, hsz⟩ := okWide_struct Tryd.underlying26 hv
  obtain ⟨fuel, hf⟩ := h
  obtain ⟨n, u, e, hu, hg, hw⟩ := node_read (N := Rows.uptoBulk d) (fun fuel v y _ hy => nodes_trod (Rows.uptoBulk y.1 + 1) fuel v y (Nat.lt_succ_self _) hy) (Nat.le_refl _) hf
  refine ⟨n, u, ?_, hu, hg, hw⟩
  unfold ndV
  simp only [Value.cells] at e
  obtain ⟨cs⟩ := cs
  simp only at e
  rw [e]
end
theorem sameN_comm (n m : ND) : sameN m n = sameN n m := by
  rw [Bool.eq_iff_iff, same_iff, same_iff]
  exact eq_comm
theorem few_cnt {n : ND} (h : fewN n = true) : cntN n ≤ 1000 := by
  unfold fewN at h
  simp only [Bool.and_eq_true, decide_eq_true_eq] at h
  omega
theorem few_short {n : ND} (h : fewN n = true) : n.p.d.size ≤ 10 := by
  obtain ⟨k, p, a, t, l⟩ := n
  unfold fewN shortN at h
  simp only [Bool.and_eq_true, decide_eq_true_eq] at h
  exact h.2.1.2.2
theorem xor_ne (k : Int) : bits .xor .i64 k 1 ≠ k := by
  intro h
  have e : BitVec.ofInt 64 (IntKind.i64.wrap ((BitVec.ofInt 64 k ^^^ BitVec.ofInt 64 1).toNat : Int)) = BitVec.ofInt 64 k ^^^ BitVec.ofInt 64 1 := by
    apply BitVec.eq_of_toNat_eq
    rw [BitVec.toNat_ofInt, IntKind.wrap_i64]
    have := (BitVec.ofInt 64 k ^^^ BitVec.ofInt 64 1).isLt
    generalize (BitVec.ofInt 64 k ^^^ BitVec.ofInt 64 1).toNat = n at *
    omega
  have h1 : IntKind.i64.wrap ((BitVec.ofInt 64 k ^^^ BitVec.ofInt 64 1).toNat : Int) = k := h
  rw [h1] at e
  have e2 := congrArg (fun x => BitVec.ofInt 64 k ^^^ x) e
  simp only [BitVec.xor_self, ← BitVec.xor_assoc, BitVec.zero_xor] at e2
  exact absurd e2 (by decide)
theorem app_ne (q : ByteArray) : q ++ (⟨#[88]⟩ : ByteArray) ≠ q := by
  intro h
  have := congrArg ByteArray.size h
  rw [ByteArray.size_append] at this
  have e : (⟨#[88]⟩ : ByteArray).size = 1 := rfl
  omega
theorem same_no {n m : ND} (h : n ≠ m) : sameN n m = false := by
  rcases Bool.eq_false_or_eq_true (sameN n m) with e | e
  · exact absurd ((same_iff n m).1 e) h
  · exact e
theorem cntL_of_wgt {n : ND} (h : wgtN n ≤ 1048576) : cntL n.l ≤ 2000000 := by
  have := cnt_wgt n
  have e : cntN n = cntL n.l + 1 := by cases n; rfl
  omega
end Go.Proofs.YtndmohamjffpcaaDoor
