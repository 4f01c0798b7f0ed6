/-
  Joined: PtA, PtB, PtD, PtE, PtF, PtG.
-/
import Derived.Test.YtndmohamjffpcaaDoorGSetC
import Derived.Test.YtndmohamjffpcaaDoorGMask
import Derived.Test.YtndmohamjffpcaaDoorGUnit
import Derived.Test.YtndmohamjffpcaaDoorPtP
import Derived.Test.YtndmohamjffpcaaDoorGOrdA
import Derived.Laws.EntriesVeiled
import Derived.Test.YtndmohamjffpcaaDoorGLeafA
import Derived.LoopTactic
namespace Go.Proofs.YtndmohamjffpcaaDoor
open Go.RowKit
set_option linter.unusedVariables false
set_option linter.unusedSimpArgs false
/-- a row of the shapes -/
structure SHP where
  y : Int
  p : Int
  d : Int
  n : Int
  e : ByteArray
def shp (k : Int) : SHP := if k = 0 then ⟨4, 2, 2, 12, ⟨#[]⟩⟩ else if k = 1 then ⟨4, 2, 0, 12, ⟨#[]⟩⟩ else if k = 2 then ⟨4, 1, 0, 4, ⟨#[]⟩⟩ else if k = 3 then ⟨4, 0, 0, 0, ⟨#[]⟩⟩ else if k = 4 then ⟨3, 0, 0, 0, ⟨#[100]⟩⟩ else ⟨2, 0, 0, 0, ⟨#[99]⟩⟩
def shpCells : List Value := [.int .i64 4, .int .i64 2, .int .i64 2, .int .i64 12, .string ⟨#[]⟩, .int .i64 4, .int .i64 2, .int .i64 0, .int .i64 12, .string ⟨#[]⟩, .int .i64 4, .int .i64 1, .int .i64 0, .int .i64 4, .string ⟨#[]⟩,
  .int .i64 4, .int .i64 0, .int .i64 0, .int .i64 0, .string ⟨#[]⟩, .int .i64 3, .int .i64 0, .int .i64 0, .int .i64 0, .string ⟨#[100]⟩, .int .i64 2, .int .i64 0, .int .i64 0, .int .i64 0, .string ⟨#[99]⟩]
def TabSH (w : World) : Prop := w.var? Tryd.prog "lustrum/point.shapes" = some shpCells.toArray
theorem gSH : Tryd.prog.globalNamed "lustrum/point.shapes" = some 0 := by kernel_rfl
theorem TabSH.kp {w w' : World} (h : TabSH w) (k : Kp w w') : TabSH w' := var?_below k gSH (var_lt gSH h) h
theorem TabSH.cell {w : World} (h : TabSH w) (i : Nat) (hi : i < 30) : w.cell? ⟨0, i, none⟩ = shpCells[i]? := by
  unfold TabSH World.var? at h
  simp only [gSH, Option.bind_some] at h
  unfold World.cell?
  cases hq : w.heap[0]? with
  | none => rw [hq] at h; cases h
  | some o =>
    rw [hq] at h
    cases o with
    | cells c t fr =>
      simp only [Option.some.injEq] at h
      subst h
      simp
    | _ => simp at h
def TabRD (w : World) : Prop := Lib.TabIs Tryd.prog w "lustrum/point.radii" .i64 [3, 1, 1, 2, 1, 1]
def Tabs8 (w : World) : Prop := Tabs w ∧ TabSH w ∧ TabRD w
theorem setM_gd (s : ByteArray) : Gd 10000 (setM s) ∧ (setM s).length ≤ 10000 := by
  unfold setM
  rcases Bool.eq_false_or_eq_true (saneM s) with h | h
  · rw [if_pos h]
    have m := mk_of h
    have k := setK_ok s m.ok s.size (Nat.le_refl _)
    have hs : s.size ≤ 4 := by
      unfold saneM at h
      rw [Bool.and_eq_true, decide_eq_true_eq] at h
      exact h.1.2
    have p := P10_le s.size hs
    have t := T10_le s.size hs
    have l := k.1.tot
    exact ⟨fun r hr => by have := k.1 r hr; omega, by omega⟩
  · rw [if_neg (by rw [h]; decide)]
    exact ⟨fun r hr => (by cases hr), by simp⟩
theorem setM_i64 (s : ByteArray) : I64R (setM s) := fun r hr => by have := (setM_gd s).1 r hr; omega
theorem bl_len (s : ByteArray) : ∀ (n i : Nat) (r : List UInt8), s.size - i = n → (ByteArray.toList.loop s i r).length = r.length + n := by
  intro n
  induction n with
  | zero =>
    intro i r h
    unfold ByteArray.toList.loop
    rw [if_neg (by omega)]
    simp
  | succ n ih =>
    intro i r h
    unfold ByteArray.toList.loop
    rw [if_pos (by omega), ih (i + 1) _ (by omega)]
    simp only [List.length_cons]
    omega
theorem str_empty (s : ByteArray) : s.toList.isEmpty = decide (s.size = 0) := by
  have h : s.toList.length = s.size := by
    unfold ByteArray.toList
    rw [bl_len s s.size 0 [] (by omega)]
    simp
  by_cases e : s.size = 0
  · rw [decide_eq_true e, List.isEmpty_iff, ← List.length_eq_zero_iff, h]
    exact e
  · rw [decide_eq_false e]
    cases hq : s.toList with
    | nil => rw [hq] at h; exact absurd h.symm e
    | cons a b => rfl
/-- the set of the numbers from 1 to most that match -/
def matR (s : ByteArray) (most : Int) : List R := interR (setM s) [(1, most)]
def fitP (s : ByteArray) (len most : Int) : Bool := if len = 0 then decide (s.size = 0) else decide ((s.size : Int) = len) && decide (0 < (matR s most).length)
theorem kind_any (k : Int) (w : World) : Calls Tryd.prog 46 #[.int .i64 k] w fun e w' => e = .returned (.bool (decide (0 ≤ k ∧ k < 6))) ∧ w = w' := by
  by_cases h : 0 ≤ k
  · rw [show decide (0 ≤ k ∧ k < 6) = decide (k < 6) by simp [h]]
    go_enter Tryd.func46, Tryd.ntmps46
    go_wp2
    go_ret
    exact ⟨rfl, rfl⟩
  · rw [show decide (0 ≤ k ∧ k < 6) = false by simp [h]]
    go_enter Tryd.func46, Tryd.ntmps46
    go_wp2
    go_ret
    exact ⟨rfl, rfl⟩
set_option maxHeartbeats 4000000 in
set_option maxRecDepth 100000 in
theorem matching_any (s : ByteArray) (most : Int) (w : World) (h0 : 0 ≤ most) (h9 : most ≤ 100) :
    Calls Tryd.prog 56 #[.string s, .int .i64 most] w fun e w' => ∃ v : Value, e = .returned v ∧ w'.ownsRow w.heap.size 118 2 v (matR s most).length (cellsR (matR s most)) ∧ Kp w w' := by
  have C1 := Lib.hid (mset_any s w)
  have C2 := Lib.hid (fun v w1 (hv : RunsAt w1 v (setM s)) => clip_any v (setM s) 1 most w1 hv (setM_i64 s) (by have := (setM_gd s).2; omega) (by intro r hr; rw [List.mem_singleton.1 hr]; exact ⟨by simp only; omega, by simp only; omega, by simp only; omega, by simp only; omega⟩))
  unfold matR
  generalize interR (setM s) [(1, most)] = L at *
  go_enter Tryd.func56, Tryd.ntmps56
  go_wp2_with fail
  refine C1.out.mono ?_
  rintro e w1 ⟨v1, rfl, own1, kk⟩
  have R1 := Lib.hid (runsAt_own own1)
  have K1 := Lib.hid kk
  obtain ⟨ad, c, rfl⟩ := own_slice own1
  clear own1 kk
  go_wp2_with fail
  refine (C2.out _ _ R1.out).mono ?_
  rintro e w2 ⟨v2, rfl, own2, kk⟩
  have O2 := Lib.hid (own_mono own2 K1.out.size)
  have K2 := Lib.hid (K1.out.trans kk)
  clear own2 kk
  go_wp2
  go_ret
  exact ⟨_, rfl, O2.out, K2.out⟩
set_option maxHeartbeats 4000000 in
set_option maxRecDepth 100000 in
theorem fits_any (s : ByteArray) (len most : Int) (w : World) (h0 : 0 ≤ most) (h9 : most ≤ 100) :
    Calls Tryd.prog 48 #[.string s, .int .i64 len, .int .i64 most] w fun e w' => e = .returned (.bool (fitP s len most)) ∧ Kp w w' := by
  have C1 := Lib.hid (matching_any s most w h0 h9)
  unfold fitP
  by_cases hl : len = 0
  · subst hl
    rw [if_pos rfl]
    have E := Lib.hid (str_empty s)
    go_enter Tryd.func48, Tryd.ntmps48
    go_wp2
    go_ret
    exact ⟨by rewrite [E.out]; rfl, Kp.refl _⟩
  · rw [if_neg hl]
    have ql : (len == 0) = false := beq_eq_false_iff_ne.2 hl
    by_cases hs : (s.size : Int) = len
    · rw [decide_eq_true hs, Bool.true_and]
      have qs : ((s.size : Int) == len) = true := by rw [hs]; simp
      generalize matR s most = L at *
      have E : decide ((0 : Int) < (L.length : Int)) = decide (0 < L.length) := by
        by_cases h : 0 < L.length
        · rw [decide_eq_true h, decide_eq_true (by omega)]
        · rw [decide_eq_false h, decide_eq_false (by omega)]
      have E2 := Lib.hid E
      clear E hs hl h0 h9
      go_enter Tryd.func48, Tryd.ntmps48
      go_wp2_with fail
      refine C1.out.mono ?_
      rintro e w1 ⟨v1, rfl, own1, kk⟩
      obtain ⟨ad, c, rfl⟩ := own_slice own1
      have K1 := Lib.hid kk
      clear own1 kk
      go_wp2
      go_ret
      exact ⟨by first | rfl | (rewrite [← E2.out]; rfl), K1.out⟩
    · rw [decide_eq_false hs, Bool.false_and]
      have qs : ((s.size : Int) == len) = false := beq_eq_false_iff_ne.2 hs
      clear hs hl C1
      go_enter Tryd.func48, Tryd.ntmps48
      go_wp2
      go_ret
      exact ⟨rfl, Kp.refl _⟩
/-- a point -/
structure PT where
  k : Int
  y : ByteArray
  m : ByteArray
  d : ByteArray
def ptV (p : PT) : Value := .agg #[.int .i64 p.k, .string p.y, .string p.m, .string p.d]
def saneP (p : PT) : Bool := decide (0 ≤ p.k ∧ p.k < 6) && (decide ((p.y.size : Int) = (shp p.k).y) && (saneM p.y && (fitP p.m (shp p.k).p (shp p.k).n && fitP p.d (shp p.k).d 31)))
theorem shp_cells {w : World} (T : TabSH w) {k : Int} (h : 0 ≤ k ∧ k < 6) : ∃ i : Nat, (i : Int) = k ∧ i < 6 ∧
    w.cell? ⟨0, i * 5, none⟩ = some (.int .i64 (shp k).y) ∧ w.cell? ⟨0, i * 5 + 1, none⟩ = some (.int .i64 (shp k).p) ∧ w.cell? ⟨0, i * 5 + 2, none⟩ = some (.int .i64 (shp k).d) ∧
    w.cell? ⟨0, i * 5 + 3, none⟩ = some (.int .i64 (shp k).n) ∧ w.cell? ⟨0, i * 5 + 4, none⟩ = some (.string (shp k).e) := by
  have hk : k = 0 ∨ k = 1 ∨ k = 2 ∨ k = 3 ∨ k = 4 ∨ k = 5 := by omega
  rcases hk with rfl | rfl | rfl | rfl | rfl | rfl
  · exact ⟨0, rfl, by omega, T.cell 0 (by omega), T.cell 1 (by omega), T.cell 2 (by omega), T.cell 3 (by omega), T.cell 4 (by omega)⟩
  · exact ⟨1, rfl, by omega, T.cell 5 (by omega), T.cell 6 (by omega), T.cell 7 (by omega), T.cell 8 (by omega), T.cell 9 (by omega)⟩
  · exact ⟨2, rfl, by omega, T.cell 10 (by omega), T.cell 11 (by omega), T.cell 12 (by omega), T.cell 13 (by omega), T.cell 14 (by omega)⟩
  · exact ⟨3, rfl, by omega, T.cell 15 (by omega), T.cell 16 (by omega), T.cell 17 (by omega), T.cell 18 (by omega), T.cell 19 (by omega)⟩
  · exact ⟨4, rfl, by omega, T.cell 20 (by omega), T.cell 21 (by omega), T.cell 22 (by omega), T.cell 23 (by omega), T.cell 24 (by omega)⟩
  · exact ⟨5, rfl, by omega, T.cell 25 (by omega), T.cell 26 (by omega), T.cell 27 (by omega), T.cell 28 (by omega), T.cell 29 (by omega)⟩
theorem shp_bd (k : Int) : 0 ≤ (shp k).n ∧ (shp k).n ≤ 100 := by unfold shp; (repeat' split) <;> decide
theorem pt_dest (p : PT) : ∃ k y m d, p = ⟨k, y, m, d⟩ := ⟨p.k, p.y, p.m, p.d, rfl⟩
set_option maxHeartbeats 16000000 in
set_option maxRecDepth 100000 in
theorem ptSane_any (p : PT) (w : World) (T : TabSH w) : Calls Tryd.prog 36 #[ptV p] w fun e w' => e = .returned (.bool (saneP p)) ∧ Kp w w' := by
  obtain ⟨k, y, m, d, rfl⟩ := pt_dest p
  unfold ptV saneP
  simp only
  obtain ⟨W0, hW⟩ : ∃ x, x = w.alloc (.cells #[.int .i64 k, .string y, .string m, .string d] 23) := ⟨_, rfl⟩
  have k0 : Kp w W0 := by rw [hW]; exact Kp.alloc _ _
  have hg : W0.heap[w.heap.size]? = some (.cells #[.int .i64 k, .string y, .string m, .string d] 23 (0, 0)) := by rw [hW]; exact heap_at _ _ _ rfl
  have HB := Lib.hid (fun w1 (q : Kp W0 w1) => show w1.cell? ⟨w.heap.size, 0, none⟩ = some (.int .i64 k) ∧ w1.cell? ⟨w.heap.size, 1, none⟩ = some (.string y) ∧ w1.cell? ⟨w.heap.size, 2, none⟩ = some (.string m) ∧ w1.cell? ⟨w.heap.size, 3, none⟩ = some (.string d) from ⟨cell_up q (by simp [World.cell?, hg]), cell_up q (by simp [World.cell?, hg]), cell_up q (by simp [World.cell?, hg]), cell_up q (by simp [World.cell?, hg])⟩)
  have HW := Lib.hid hW
  have K0 := Lib.hid k0
  have J0 := Lib.hid (Kp.refl W0)
  have C0 := Lib.hid (fun w1 => kind_any k w1)
  by_cases hk : 0 ≤ k ∧ k < 6
  · rw [decide_eq_true hk] at C0 ⊢
    rw [Bool.true_and]
    obtain ⟨i, hi, hi6, t0, t1, t2, t3, t4⟩ := shp_cells (T.kp k0) hk
    have bd := shp_bd k
    have C1 := Lib.hid (fun w1 => msane_any y w1)
    have C2 := Lib.hid (fun w1 => fits_any m (shp k).p (shp k).n w1 bd.1 bd.2)
    have C3 := Lib.hid (fun w1 => fits_any d (shp k).d 31 w1 (by decide) (by decide))
    generalize shp k = F at *
    obtain ⟨fy, fp, fd, fn, fe⟩ := F
    simp only at *
    generalize saneM y = b1 at *
    generalize fitP m fp fn = b2 at *
    generalize fitP d fd 31 = b3 at *
    subst hi
    clear hk bd hW k0 hg T
    obtain ⟨V, hV⟩ : ∃ x, x = W0.alloc (.cells #[.int .i64 fy, .int .i64 fp, .int .i64 fd, .int .i64 fn, .string fe] 89) := ⟨_, rfl⟩
    have kv : Kp W0 V := by rw [hV]; exact Kp.alloc _ _
    have hgv : V.heap[W0.heap.size]? = some (.cells #[.int .i64 fy, .int .i64 fp, .int .i64 fd, .int .i64 fn, .string fe] 89 (0, 0)) := by rw [hV]; exact heap_at _ _ _ rfl
    have HC := Lib.hid (fun w1 (q : Kp V w1) => show w1.cell? ⟨W0.heap.size, 0, none⟩ = some (.int .i64 fy) ∧ w1.cell? ⟨W0.heap.size, 1, none⟩ = some (.int .i64 fp) ∧ w1.cell? ⟨W0.heap.size, 2, none⟩ = some (.int .i64 fd) ∧ w1.cell? ⟨W0.heap.size, 3, none⟩ = some (.int .i64 fn) from ⟨cell_up q (by simp [World.cell?, hgv]), cell_up q (by simp [World.cell?, hgv]), cell_up q (by simp [World.cell?, hgv]), cell_up q (by simp [World.cell?, hgv])⟩)
    have HB2 := Lib.hid (fun w1 (q : Kp V w1) => HB.out w1 (kv.trans q))
    have HVV := Lib.hid hV
    have KV := Lib.hid (K0.out.trans kv)
    have z1 : (i : Int) < 6 := by omega
    have z2 : (0 : Int) ≤ (i : Int) := by omega
    clear hV kv hgv
    have c00 := (HB.out W0 (Kp.refl _)).1
    have lt1 : w.heap.size < W0.heap.size := World.block_lt_of_cell? _ _ c00
    have ne1 : ¬ w.heap.size = W0.heap.size := by omega
    clear c00
    by_cases hy : (y.size : Int) = fy
    · have qy : ((y.size : Int) == fy) = true := by rw [hy]; simp
      rw [decide_eq_true hy, Bool.true_and]
      have I0 := Lib.hid (Kp.refl V)
      cases b1 with
      | false =>
        go_enter Tryd.func36, Tryd.ntmps36
        go_wp2_with fail
        rw [← HW.out]
        obtain ⟨c0, c1, c2, c3⟩ := HB.out W0 (Kp.refl _)
        refine (C0.out _).mono ?_
        rintro e w1 ⟨rfl, rfl⟩
        go_wp2_with fail
        rw [← HVV.out]
        clear c0 c1 c2 c3 t0 t1 t2 t3 t4
        refine (C1.out _).mono ?_
        rintro e w2 ⟨rfl, kk⟩
        have I1 := Lib.hid (I0.out.trans kk)
        clear kk
        obtain ⟨c0, c1, c2, c3⟩ := HB2.out w2 I1.out
        obtain ⟨d0, d1, d2, d3⟩ := HC.out w2 I1.out
        go_wp2
        go_ret
        exact ⟨rfl, KV.out.trans I1.out⟩
      | true =>
        rw [Bool.true_and]
        cases b2 with
        | false =>
          go_enter Tryd.func36, Tryd.ntmps36
          go_wp2_with fail
          rw [← HW.out]
          obtain ⟨c0, c1, c2, c3⟩ := HB.out W0 (Kp.refl _)
          refine (C0.out _).mono ?_
          rintro e w1 ⟨rfl, rfl⟩
          go_wp2_with fail
          rw [← HVV.out]
          clear c0 c1 c2 c3 t0 t1 t2 t3 t4
          refine (C1.out _).mono ?_
          rintro e w2 ⟨rfl, kk⟩
          have I1 := Lib.hid (I0.out.trans kk)
          clear kk
          obtain ⟨c0, c1, c2, c3⟩ := HB2.out w2 I1.out
          obtain ⟨d0, d1, d2, d3⟩ := HC.out w2 I1.out
          go_wp2_with fail
          refine (C2.out _).mono ?_
          rintro e w3 ⟨rfl, kk⟩
          have I2 := Lib.hid (I1.out.trans kk)
          clear kk
          clear c0 c1 c2 c3 d0 d1 d2 d3
          obtain ⟨c0, c1, c2, c3⟩ := HB2.out w3 I2.out
          obtain ⟨d0, d1, d2, d3⟩ := HC.out w3 I2.out
          go_wp2
          go_ret
          exact ⟨rfl, KV.out.trans I2.out⟩
        | true =>
          rw [Bool.true_and]
          go_enter Tryd.func36, Tryd.ntmps36
          go_wp2_with fail
          rw [← HW.out]
          obtain ⟨c0, c1, c2, c3⟩ := HB.out W0 (Kp.refl _)
          refine (C0.out _).mono ?_
          rintro e w1 ⟨rfl, rfl⟩
          go_wp2_with fail
          rw [← HVV.out]
          clear c0 c1 c2 c3 t0 t1 t2 t3 t4
          refine (C1.out _).mono ?_
          rintro e w2 ⟨rfl, kk⟩
          have I1 := Lib.hid (I0.out.trans kk)
          clear kk
          obtain ⟨c0, c1, c2, c3⟩ := HB2.out w2 I1.out
          obtain ⟨d0, d1, d2, d3⟩ := HC.out w2 I1.out
          go_wp2_with fail
          refine (C2.out _).mono ?_
          rintro e w3 ⟨rfl, kk⟩
          have I2 := Lib.hid (I1.out.trans kk)
          clear kk
          clear c0 c1 c2 c3 d0 d1 d2 d3
          obtain ⟨c0, c1, c2, c3⟩ := HB2.out w3 I2.out
          obtain ⟨d0, d1, d2, d3⟩ := HC.out w3 I2.out
          go_wp2_with fail
          refine (C3.out _).mono ?_
          rintro e w4 ⟨rfl, kk⟩
          have I3 := Lib.hid (I2.out.trans kk)
          clear kk
          clear c0 c1 c2 c3 d0 d1 d2 d3
          obtain ⟨c0, c1, c2, c3⟩ := HB2.out w4 I3.out
          obtain ⟨d0, d1, d2, d3⟩ := HC.out w4 I3.out
          go_wp2
          go_ret
          exact ⟨rfl, KV.out.trans I3.out⟩
    · have qy : ((y.size : Int) == fy) = false := beq_eq_false_iff_ne.2 hy
      rw [decide_eq_false hy, Bool.false_and]
      go_enter Tryd.func36, Tryd.ntmps36
      go_wp2_with fail
      rw [← HW.out]
      obtain ⟨c0, c1, c2, c3⟩ := HB.out W0 (Kp.refl _)
      refine (C0.out _).mono ?_
      rintro e w1 ⟨rfl, rfl⟩
      go_wp2
      go_ret
      exact ⟨rfl, by first | exact KV.out | exact K0.out.trans (Kp.alloc _ _)⟩
  · rw [decide_eq_false hk] at C0 ⊢
    clear hk hW k0 hg T
    go_enter Tryd.func36, Tryd.ntmps36
    go_wp2_with fail
    rw [← HW.out]
    obtain ⟨c0, c1, c2, c3⟩ := HB.out W0 (Kp.refl _)
    refine (C0.out _).mono ?_
    rintro e w1 ⟨rfl, rfl⟩
    go_wp2
    go_ret
    exact ⟨rfl, K0.out⟩
end Go.Proofs.YtndmohamjffpcaaDoor

namespace Go.Proofs.YtndmohamjffpcaaDoor
open Go.RowKit
set_option linter.unusedVariables false
set_option linter.unusedSimpArgs false
theorem ps_heap {w : World} {B : Nat} {t : TypeId} {c : Array Value} {fr : Nat × Nat} (hB : w.heap[B]? = some (.cells c t fr)) (o : Nat) (x : Value) : (w.setCell ⟨B, o, none⟩ x).heap[B]? = some (.cells (c.setIfInBounds o x) t fr) := by
  unfold World.setCell
  simp only
  rw [Array.getElem?_modify, if_pos rfl, hB]
  rfl
theorem ps_other {w : World} {B C : Nat} (h : C ≠ B) (o : Nat) (x : Value) : (w.setCell ⟨B, o, none⟩ x).heap[C]? = w.heap[C]? := by
  unfold World.setCell
  simp only
  rw [Array.getElem?_modify, if_neg (Ne.symm h)]
/-- which blocks the growing set may write: the box, and the row that it tells -/
def dirty (B : Nat) (W : World) (k : Nat) : Prop := k = B ∨ ∃ v t fr, W.heap[B]? = some (.cells #[v] t fr) ∧ v.ownBlock = some k
/-- the row that the box tells is there -/
def WFB (B : Nat) (W : World) : Prop := ∀ k, dirty B W k → ∃ c t fr, W.heap[k]? = some (.cells c t fr)
theorem dirty_same {B k : Nat} {W W' : World} (e : W'.heap[B]? = W.heap[B]?) (h : dirty B W' k) : dirty B W k := by
  rcases h with h | ⟨v, t, fr, a, b⟩
  · exact .inl h
  · exact .inr ⟨v, t, fr, by rw [← e]; exact a, b⟩
/-- all others stay, and stay others -/
structure IKB (B : Nat) (W W' : World) : Prop where
  size : W.heap.size ≤ W'.heap.size
  wf : WFB B W → WFB B W'
  same : ∀ (k : Nat) (o : Obj), W.heap[k]? = some o → ¬ dirty B W k → W'.heap[k]? = some o ∧ ¬ dirty B W' k
theorem IKB.refl (B : Nat) (W : World) : IKB B W W := ⟨Nat.le_refl _, fun h => h, fun _ _ h d => ⟨h, d⟩⟩
theorem IKB.trans {B : Nat} {X Y Z : World} (h : IKB B X Y) (k : IKB B Y Z) : IKB B X Z :=
  ⟨Nat.le_trans h.size k.size, fun q => k.wf (h.wf q), fun i o hi hd => by obtain ⟨a, b⟩ := h.same i o hi hd; exact k.same i o a b⟩
theorem IKB.kp {B : Nat} {W W' : World} (h : Kp W W') (hB : B < W.heap.size) : IKB B W W' := by
  refine ⟨h.size, fun q k d => by obtain ⟨c, t, fr, a⟩ := q k (dirty_same (h.block B hB) d); exact ⟨c, t, fr, (h.block k (Array.getElem?_eq_some_iff.1 a).1).trans a⟩, fun k o hk hd => ⟨(h.block k (Array.getElem?_eq_some_iff.1 hk).1).trans hk, fun hd' => hd ?_⟩⟩
  rcases hd' with e | ⟨v, t, fr, a, b⟩
  · exact .inl e
  · exact .inr ⟨v, t, fr, by rw [← h.block B hB]; exact a, b⟩
/-- what is made anew is none of them -/
theorem fresh_clean {B : Nat} {W : World} (q : WFB B W) (hB : B < W.heap.size) (o : Obj) : ¬ dirty B (W.alloc o) W.heap.size := by
  rintro (e | ⟨v, t, fr, a, b⟩)
  · omega
  · rw [(Kp.alloc W o).block B hB] at a
    obtain ⟨_, _, _, hx⟩ := q _ (.inr ⟨v, t, fr, a, b⟩)
    have := (Array.getElem?_eq_some_iff.1 hx).1
    omega
theorem IKB.obj {B : Nat} {W W' : World} (h : IKB B W W') {k : Nat} {o : Obj} (hk : W.heap[k]? = some o) (hd : ¬ dirty B W k) : W'.heap[k]? = some o := (h.same k o hk hd).1
/-- a row and its box change: nothing else -/
theorem IKB.put {B : Nat} {W W' : World} {t : TypeId} {v v' : Value} (hb : W.heap[B]? = some (.cells #[v] t (0, 0))) (hb' : W'.heap[B]? = some (.cells #[v'] t (0, 0))) (hs : W.heap.size ≤ W'.heap.size)
    (hsame : ∀ k, k < W.heap.size → k ≠ B → v.ownBlock ≠ some k → W'.heap[k]? = W.heap[k]?) (hv : v'.ownBlock = v.ownBlock ∨ ∃ g, v'.ownBlock = some g ∧ W.heap.size ≤ g) (hwf : WFB B W') : IKB B W W' := by
  refine ⟨hs, fun _ => hwf, fun k o hk hd => ?_⟩
  have hlt := (Array.getElem?_eq_some_iff.1 hk).1
  have n1 : k ≠ B := fun e => hd (.inl e)
  have n2 : v.ownBlock ≠ some k := fun e => hd (.inr ⟨v, t, (0, 0), hb, e⟩)
  refine ⟨(hsame k hlt n1 n2).trans hk, ?_⟩
  rintro (e | ⟨u, t', fr, a, b⟩)
  · exact n1 e
  · rw [hb'] at a
    cases a
    rcases hv with e | ⟨g, e, hg⟩
    · rw [e] at b; exact n2 b
    · rw [e] at b
      cases b
      omega
end Go.Proofs.YtndmohamjffpcaaDoor

namespace Go.Proofs.YtndmohamjffpcaaDoor
open Go.RowKit
set_option linter.unusedVariables false
set_option linter.unusedSimpArgs false
def dash : ByteArray := ⟨#[45]⟩
def textP (p : PT) : ByteArray := if saneP p = true then (if p.k = 0 then p.y ++ (dash ++ p.m ++ (dash ++ p.d)) else if p.k = 1 then p.y ++ (dash ++ p.m ++ (shp 1).e) else if p.k = 2 then p.y ++ ((⟨#[115]⟩ : ByteArray) ++ p.m) else p.y ++ (shp p.k).e) else ⟨#[]⟩
theorem fitP_size {s : ByteArray} {len most : Int} (h : fitP s len most = true) (h2 : len ≤ 2) : s.size ≤ 2 := by
  unfold fitP at h
  split at h
  · have := of_decide_eq_true h; omega
  · rw [Bool.and_eq_true] at h
    have := of_decide_eq_true h.1; omega
theorem saneP_size {p : PT} (h : saneP p = true) : p.y.size ≤ 4 ∧ p.m.size ≤ 2 ∧ p.d.size ≤ 2 := by
  unfold saneP at h
  simp only [Bool.and_eq_true] at h
  obtain ⟨_, h1, _, h3, h4⟩ := h
  have e := of_decide_eq_true h1
  have b : (shp p.k).y ≤ 4 ∧ (shp p.k).p ≤ 2 ∧ (shp p.k).d ≤ 2 := by unfold shp; (repeat' split) <;> decide
  exact ⟨by omega, fitP_size h3 b.2.1, fitP_size h4 b.2.2⟩
set_option maxHeartbeats 16000000 in
set_option maxRecDepth 100000 in
theorem ptText_any (p : PT) (w : World) (T : TabSH w) : Calls Tryd.prog 38 #[ptV p] w fun e w' => e = .returned (.string (textP p)) ∧ Kp w w' := by
  obtain ⟨k, y, m, d, rfl⟩ := pt_dest p
  unfold ptV
  simp only
  obtain ⟨W0, hW⟩ : ∃ x, x = w.alloc (.cells #[.int .i64 k, .string y, .string m, .string d] 23) := ⟨_, rfl⟩
  have k0 : Kp w W0 := by rw [hW]; exact Kp.alloc _ _
  have hg : W0.heap[w.heap.size]? = some (.cells #[.int .i64 k, .string y, .string m, .string d] 23 (0, 0)) := by rw [hW]; exact heap_at _ _ _ rfl
  have HB := Lib.hid (fun w1 (q : Kp W0 w1) => show w1.cell? ⟨w.heap.size, 0, none⟩ = some (.int .i64 k) ∧ w1.cell? ⟨w.heap.size, 1, none⟩ = some (.string y) ∧ w1.cell? ⟨w.heap.size, 2, none⟩ = some (.string m) ∧ w1.cell? ⟨w.heap.size, 3, none⟩ = some (.string d) from ⟨cell_up q (by simp [World.cell?, hg]), cell_up q (by simp [World.cell?, hg]), cell_up q (by simp [World.cell?, hg]), cell_up q (by simp [World.cell?, hg])⟩)
  have HW := Lib.hid hW
  have K0 := Lib.hid k0
  have C0 := Lib.hid (fun w1 (q : Kp W0 w1) => ptSane_any ⟨k, y, m, d⟩ w1 (T.kp (k0.trans q)))
  have SH := Lib.hid (fun w1 (q : Kp W0 w1) (h : 0 ≤ k ∧ k < 6) => shp_cells (T.kp (k0.trans q)) h)
  have hsane := fun (h : saneP ⟨k, y, m, d⟩ = true) => (by unfold saneP at h; rw [Bool.and_eq_true] at h; exact of_decide_eq_true h.1 : 0 ≤ k ∧ k < 6)
  simp only [ptV] at C0
  rcases Bool.eq_false_or_eq_true (saneP ⟨k, y, m, d⟩) with hs | hs
  · obtain ⟨r, hr⟩ : ∃ r, textP ⟨k, y, m, d⟩ = r := ⟨_, rfl⟩
    rw [hr]
    unfold textP at hr
    rw [if_pos hs] at hr
    rw [hs] at C0
    have hk := hsane hs
    obtain ⟨sy, sm, sd⟩ := saneP_size hs
    simp only at hr sy sm sd
    clear hsane hs hW k0 hg T
    have hk6 : k = 0 ∨ k = 1 ∨ k = 2 ∨ k = 3 ∨ k = 4 ∨ k = 5 := by omega
    rcases hk6 with rfl | rfl | rfl | rfl | rfl | rfl
    · have HR := Lib.hid (show y ++ (dash ++ m ++ (dash ++ d)) = r from hr)
      clear hr hk
      go_enter Tryd.func38, Tryd.ntmps38
      go_wp2_with fail
      rw [← HW.out]
      obtain ⟨c0, c1, c2, c3⟩ := HB.out W0 (Kp.refl _)
      go_wp2_with fail
      refine (C0.out _ (Kp.refl _)).mono ?_
      rintro e w1 ⟨rfl, kk⟩
      have J1 := Lib.hid kk
      clear kk c0 c1 c2 c3
      obtain ⟨c0, c1, c2, c3⟩ := HB.out w1 J1.out
      have t4 : w1.cell? ⟨0, 4, none⟩ = some (.string ⟨#[]⟩) := by
        obtain ⟨i, hi, _, _, _, _, _, h4⟩ := SH.out w1 J1.out ⟨by decide, by decide⟩
        obtain rfl : i = 0 := by omega
        exact h4
      go_wp2
      go_ret
      exact ⟨by rewrite [← HR.out]; rfl, K0.out.trans J1.out⟩
    · have HR := Lib.hid (show y ++ (dash ++ m ++ ⟨#[]⟩) = r from hr)
      clear hr hk
      go_enter Tryd.func38, Tryd.ntmps38
      go_wp2_with fail
      rw [← HW.out]
      obtain ⟨c0, c1, c2, c3⟩ := HB.out W0 (Kp.refl _)
      go_wp2_with fail
      refine (C0.out _ (Kp.refl _)).mono ?_
      rintro e w1 ⟨rfl, kk⟩
      have J1 := Lib.hid kk
      clear kk c0 c1 c2 c3
      obtain ⟨c0, c1, c2, c3⟩ := HB.out w1 J1.out
      have t4 : w1.cell? ⟨0, 9, none⟩ = some (.string ⟨#[]⟩) := by
        obtain ⟨i, hi, _, _, _, _, _, h4⟩ := SH.out w1 J1.out ⟨by decide, by decide⟩
        obtain rfl : i = 1 := by omega
        exact h4
      go_wp2
      go_ret
      exact ⟨by rewrite [← HR.out]; rfl, K0.out.trans J1.out⟩
    · have HR := Lib.hid (show y ++ ((⟨#[115]⟩ : ByteArray) ++ m) = r from hr)
      clear hr hk
      go_enter Tryd.func38, Tryd.ntmps38
      go_wp2_with fail
      rw [← HW.out]
      obtain ⟨c0, c1, c2, c3⟩ := HB.out W0 (Kp.refl _)
      go_wp2_with fail
      refine (C0.out _ (Kp.refl _)).mono ?_
      rintro e w1 ⟨rfl, kk⟩
      have J1 := Lib.hid kk
      clear kk c0 c1 c2 c3
      obtain ⟨c0, c1, c2, c3⟩ := HB.out w1 J1.out
      have t4 : w1.cell? ⟨0, 14, none⟩ = some (.string ⟨#[]⟩) := by
        obtain ⟨i, hi, _, _, _, _, _, h4⟩ := SH.out w1 J1.out ⟨by decide, by decide⟩
        obtain rfl : i = 2 := by omega
        exact h4
      go_wp2
      go_ret
      exact ⟨by rewrite [← HR.out]; rfl, K0.out.trans J1.out⟩
    · have HR := Lib.hid (show y ++ (⟨#[]⟩ : ByteArray) = r from hr)
      clear hr hk
      go_enter Tryd.func38, Tryd.ntmps38
      go_wp2_with fail
      rw [← HW.out]
      obtain ⟨c0, c1, c2, c3⟩ := HB.out W0 (Kp.refl _)
      go_wp2_with fail
      refine (C0.out _ (Kp.refl _)).mono ?_
      rintro e w1 ⟨rfl, kk⟩
      have J1 := Lib.hid kk
      clear kk c0 c1 c2 c3
      obtain ⟨c0, c1, c2, c3⟩ := HB.out w1 J1.out
      have t4 : w1.cell? ⟨0, 19, none⟩ = some (.string ⟨#[]⟩) := by
        obtain ⟨i, hi, _, _, _, _, _, h4⟩ := SH.out w1 J1.out ⟨by decide, by decide⟩
        obtain rfl : i = 3 := by omega
        exact h4
      go_wp2
      go_ret
      exact ⟨by rewrite [← HR.out]; rfl, K0.out.trans J1.out⟩
    · have HR := Lib.hid (show y ++ (⟨#[100]⟩ : ByteArray) = r from hr)
      clear hr hk
      go_enter Tryd.func38, Tryd.ntmps38
      go_wp2_with fail
      rw [← HW.out]
      obtain ⟨c0, c1, c2, c3⟩ := HB.out W0 (Kp.refl _)
      go_wp2_with fail
      refine (C0.out _ (Kp.refl _)).mono ?_
      rintro e w1 ⟨rfl, kk⟩
      have J1 := Lib.hid kk
      clear kk c0 c1 c2 c3
      obtain ⟨c0, c1, c2, c3⟩ := HB.out w1 J1.out
      have t4 : w1.cell? ⟨0, 24, none⟩ = some (.string ⟨#[100]⟩) := by
        obtain ⟨i, hi, _, _, _, _, _, h4⟩ := SH.out w1 J1.out ⟨by decide, by decide⟩
        obtain rfl : i = 4 := by omega
        exact h4
      go_wp2
      go_ret
      exact ⟨by rewrite [← HR.out]; rfl, K0.out.trans J1.out⟩
    · have HR := Lib.hid (show y ++ (⟨#[99]⟩ : ByteArray) = r from hr)
      clear hr hk
      go_enter Tryd.func38, Tryd.ntmps38
      go_wp2_with fail
      rw [← HW.out]
      obtain ⟨c0, c1, c2, c3⟩ := HB.out W0 (Kp.refl _)
      go_wp2_with fail
      refine (C0.out _ (Kp.refl _)).mono ?_
      rintro e w1 ⟨rfl, kk⟩
      have J1 := Lib.hid kk
      clear kk c0 c1 c2 c3
      obtain ⟨c0, c1, c2, c3⟩ := HB.out w1 J1.out
      have t4 : w1.cell? ⟨0, 29, none⟩ = some (.string ⟨#[99]⟩) := by
        obtain ⟨i, hi, _, _, _, _, _, h4⟩ := SH.out w1 J1.out ⟨by decide, by decide⟩
        obtain rfl : i = 5 := by omega
        exact h4
      go_wp2
      go_ret
      exact ⟨by rewrite [← HR.out]; rfl, K0.out.trans J1.out⟩
  · rw [show textP ⟨k, y, m, d⟩ = ⟨#[]⟩ by unfold textP; rw [if_neg (by rw [hs]; decide)]]
    rw [hs] at C0
    clear hsane hs hW k0 hg T
    go_enter Tryd.func38, Tryd.ntmps38
    go_wp2_with fail
    rw [← HW.out]
    obtain ⟨c0, c1, c2, c3⟩ := HB.out W0 (Kp.refl _)
    go_wp2_with fail
    refine (C0.out _ (Kp.refl _)).mono ?_
    rintro e w1 ⟨rfl, kk⟩
    have J1 := Lib.hid kk
    clear kk c0 c1 c2 c3
    obtain ⟨c0, c1, c2, c3⟩ := HB.out w1 J1.out
    go_wp2
    go_ret
    exact ⟨rfl, K0.out.trans J1.out⟩
end Go.Proofs.YtndmohamjffpcaaDoor

namespace Go.Proofs.YtndmohamjffpcaaDoor
open Go.RowKit
set_option linter.unusedVariables false
set_option linter.unusedSimpArgs false
theorem cut_head (s : ByteArray) (a : Nat) (h : a ≤ s.size) (wx : World) : (Instr.slice 9 (.string s) none (some (.int .i64 (a : Int))) none).run Tryd.prog wx = .ok (.string (s.extract 0 a)) wx := by
  simp [Instr.slice, run_underlying Tryd.underlying9, go_sem]
  omega
theorem cut_tail (s : ByteArray) (a : Nat) (h : a ≤ s.size) (wx : World) : (Instr.slice 9 (.string s) (some (.int .i64 (a : Int))) none none).run Tryd.prog wx = .ok (.string (s.extract a s.size)) wx := by
  simp [Instr.slice, run_underlying Tryd.underlying9, go_sem]
  omega
abbrev sP0 : Oper := { dst := some 10, op := Go.Op.move (Go.Operand.tmp 0), type := 9, pos := "point.go:139", after := #[], guard := none }
abbrev sP1 : Oper := { dst := some 11, op := Go.Op.move (Go.Operand.tmp 1), type := 3, pos := "point.go:139", after := #[], guard := none }
abbrev sP2 : Oper := { dst := some 12, op := Go.Op.slice 9 (Go.Operand.tmp 10) none (some (Go.Operand.tmp 11)) none, type := 9, pos := "point.go:139", after := #[{ on := 0, ground := Go.Ground.data }, { on := 1, ground := Go.Ground.data }], guard := none }
abbrev sP3 : Oper := { dst := some 13, op := Go.Op.move (Go.Operand.tmp 0), type := 9, pos := "point.go:139", after := #[], guard := none }
abbrev sP4 : Oper := { dst := some 14, op := Go.Op.move (Go.Operand.tmp 1), type := 3, pos := "point.go:139", after := #[], guard := none }
abbrev sP5 : Oper := { dst := some 15, op := Go.Op.slice 9 (Go.Operand.tmp 13) (some (Go.Operand.tmp 14)) none none, type := 9, pos := "point.go:139", after := #[{ on := 3, ground := Go.Ground.data }, { on := 4, ground := Go.Ground.data }], guard := none }
abbrev sP6 : Oper := { dst := some 4, op := Go.Op.assign (Go.Operand.tmp 12), type := 9, pos := "point.go:139", after := #[{ on := 2, ground := Go.Ground.data }, { on := 0, ground := Go.Ground.phase }, { on := 1, ground := Go.Ground.phase }, { on := 2, ground := Go.Ground.phase }, { on := 3, ground := Go.Ground.textOnly Go.Departure.lateStores }, { on := 4, ground := Go.Ground.textOnly Go.Departure.lateStores }, { on := 5, ground := Go.Ground.textOnly Go.Departure.lateStoresUnsure }], guard := none }
abbrev sP7 : Oper := { dst := some 5, op := Go.Op.assign (Go.Operand.tmp 15), type := 9, pos := "point.go:139", after := #[{ on := 5, ground := Go.Ground.data }, { on := 6, ground := Go.Ground.chain }, { on := 0, ground := Go.Ground.phase }, { on := 1, ground := Go.Ground.phase }, { on := 2, ground := Go.Ground.phase }, { on := 3, ground := Go.Ground.phase }, { on := 4, ground := Go.Ground.phase }, { on := 5, ground := Go.Ground.phase }, { on := 6, ground := Go.Ground.phase }], guard := none }
set_option maxHeartbeats 16000000 in
set_option maxRecDepth 100000 in
theorem split_any (s : ByteArray) (n : Nat) (x : Int) (w : World) (hx : x = n) (hn : n ≤ 1000) (hs : s.size ≤ 3000) :
    Calls Tryd.prog 71 #[.string s, .int .i64 x] w fun e w' => e = .returned (.tuple #[.string (s.extract 0 (min n s.size)), .string (s.extract (min n s.size) s.size)]) ∧ Kp w w' := by
  subst hx
  have ha : min n s.size ≤ s.size := by omega
  have hm : min (n : Int) (s.size : Int) = ((min n s.size : Nat) : Int) := by omega
  generalize min n s.size = a at *
  have c1 := fun w => cut_head s a ha w
  have c2 := fun w => cut_tail s a ha w
  have KS := Lib.hid (fun w' (k : Kp w w') => k)
  go_enter Tryd.func71, Tryd.ntmps71
  go_wp2_with fail
  refine wp_region_held_drew (S := fun w' => Kp w w') (by kernel_rfl) ?_ (fun hHeld0 => ?_)
  · (try dsimp only); first | exact Kp.drew _ | exact Kp.refl _
  refine tkW (v := ?_) 0 sP0 rfl (by kernel_rfl) (by kernel_rfl) (by kernel_rfl) (fun _ _ _ h => h) (by rfl) ?_ (by assumption) ?_
  rotate_left
  · intro w hSw; (try dsimp only at hSw); go_simp; (try with_reducible rfl)
  (try simp only [Act.put, sP0, List.setIfInBounds_toArray, List.set_cons_zero, List.set_cons_succ])
  refine tkW (v := ?_) 1 sP1 rfl (by kernel_rfl) (by kernel_rfl) (by kernel_rfl) (fun _ _ _ h => h) (by rfl) ?_ (by assumption) ?_
  rotate_left
  · intro w hSw; (try dsimp only at hSw); go_simp; (try with_reducible rfl)
  (try simp only [Act.put, sP1, List.setIfInBounds_toArray, List.set_cons_zero, List.set_cons_succ])
  refine tkW (v := ?_) 2 sP2 rfl (by kernel_rfl) (by kernel_rfl) (by kernel_rfl) (fun _ _ _ h => h) (by rfl) ?_ (by assumption) ?_
  rotate_left
  · intro w hSw; (try dsimp only at hSw); go_simp; (try with_reducible rfl)
  (try simp only [Act.put, sP2, List.setIfInBounds_toArray, List.set_cons_zero, List.set_cons_succ])
  refine tkW (v := ?_) 3 sP3 rfl (by kernel_rfl) (by kernel_rfl) (by kernel_rfl) (fun _ _ _ h => h) (by rfl) ?_ (by assumption) ?_
  rotate_left
  · intro w hSw; (try dsimp only at hSw); go_simp; (try with_reducible rfl)
  (try simp only [Act.put, sP3, List.setIfInBounds_toArray, List.set_cons_zero, List.set_cons_succ])
  refine tkW (v := ?_) 4 sP4 rfl (by kernel_rfl) (by kernel_rfl) (by kernel_rfl) (fun _ _ _ h => h) (by rfl) ?_ (by assumption) ?_
  rotate_left
  · intro w hSw; (try dsimp only at hSw); go_simp; (try with_reducible rfl)
  (try simp only [Act.put, sP4, List.setIfInBounds_toArray, List.set_cons_zero, List.set_cons_succ])
  refine tkW (v := ?_) 5 sP5 rfl (by kernel_rfl) (by kernel_rfl) (by kernel_rfl) (fun _ _ _ h => h) (by rfl) ?_ (by assumption) ?_
  rotate_left
  · intro w hSw; (try dsimp only at hSw); go_simp; (try with_reducible rfl)
  (try simp only [Act.put, sP5, List.setIfInBounds_toArray, List.set_cons_zero, List.set_cons_succ])
  refine tkW (v := ?_) 6 sP6 rfl (by kernel_rfl) (by kernel_rfl) (by kernel_rfl) (fun _ _ _ h => h) (by rfl) ?_ (by assumption) ?_
  rotate_left
  · intro w hSw; (try dsimp only at hSw); go_simp; (try with_reducible rfl)
  (try simp only [Act.put, sP6, List.setIfInBounds_toArray, List.set_cons_zero, List.set_cons_succ])
  refine tkW (v := ?_) 7 sP7 rfl (by kernel_rfl) (by kernel_rfl) (by kernel_rfl) (fun _ _ _ h => h) (by rfl) ?_ (by assumption) ?_
  rotate_left
  · intro w hSw; (try dsimp only at hSw); go_simp; (try with_reducible rfl)
  (try simp only [Act.put, sP7, List.setIfInBounds_toArray, List.set_cons_zero, List.set_cons_succ])
  refine wpAnyH_done (by kernel_rfl) ?_ _
  go_wp2
  exact bodyPost_ret (results_tmp2 rfl _ _ _) rfl ⟨rfl, Kp.drew _⟩
end Go.Proofs.YtndmohamjffpcaaDoor

namespace Go.Proofs.YtndmohamjffpcaaDoor
open Go.RowKit
set_option linter.unusedVariables false
set_option linter.unusedSimpArgs false
def hdS (s : ByteArray) (n : Nat) : ByteArray := s.extract 0 (min n s.size)
def tlS (s : ByteArray) (n : Nat) : ByteArray := s.extract (min n s.size) s.size
theorem tlS_size (s : ByteArray) (n : Nat) : (tlS s n).size ≤ s.size := by unfold tlS; rw [ByteArray.size_extract]; omega
/-- the point that a text's bytes make, of a kind -/
def cutP (k : Int) (s : ByteArray) : PT :=
  if k = 0 then ⟨0, hdS s 4, hdS (tlS (tlS s 4) 1) 2, hdS (tlS (tlS (tlS (tlS s 4) 1) 2) 1) 2⟩
  else if k = 1 then ⟨1, hdS s 4, hdS (tlS (tlS s 4) 1) 2, ⟨#[]⟩⟩
  else if k = 2 then ⟨2, hdS s 4, hdS (tlS (tlS s 4) 1) 1, ⟨#[]⟩⟩
  else if k = 3 then ⟨3, hdS s 4, ⟨#[]⟩, ⟨#[]⟩⟩
  else if k = 4 then ⟨4, hdS s 3, ⟨#[]⟩, ⟨#[]⟩⟩
  else ⟨5, hdS s 2, ⟨#[]⟩, ⟨#[]⟩⟩
/-- what stands in the three blocks of a cut -/
structure CutW (w0 : World) (fy fp fd fn : Int) (fe : ByteArray) (k : Int) (y m d : ByteArray) (w : World) : Prop where
  kp : Kp w0 w
  b0 : w.heap[w0.heap.size]? = some (.cells #[.int .i64 0, .string ⟨#[]⟩, .string ⟨#[]⟩, .string ⟨#[]⟩] 23 (0, 0))
  b1 : w.heap[w0.heap.size + 1]? = some (.cells #[.int .i64 fy, .int .i64 fp, .int .i64 fd, .int .i64 fn, .string fe] 89 (0, 0))
  b2 : w.heap[w0.heap.size + 1 + 1]? = some (.cells #[.int .i64 k, .string y, .string m, .string d] 23 (0, 0))
section
variable {w0 w w' : World} {fy fp fd fn k : Int} {fe y m d : ByteArray}
theorem CutW.up (h : CutW w0 fy fp fd fn fe k y m d w) (q : Kp w w') : CutW w0 fy fp fd fn fe k y m d w' := ⟨h.kp.trans q, heap_block q h.b0, heap_block q h.b1, heap_block q h.b2⟩
theorem CutW.setY (h : CutW w0 fy fp fd fn fe k y m d w) (x : ByteArray) : CutW w0 fy fp fd fn fe k x m d (w.setCell ⟨w0.heap.size + 1 + 1, 1, none⟩ (.string x)) :=
  ⟨Below.setCell h.kp (p := ⟨w0.heap.size + 1 + 1, 1, none⟩) (by simp only; omega) _, (ps_other (by omega) _ _).trans h.b0, (ps_other (by omega) _ _).trans h.b1, ps_heap h.b2 1 _⟩
theorem CutW.setM (h : CutW w0 fy fp fd fn fe k y m d w) (x : ByteArray) : CutW w0 fy fp fd fn fe k y x d (w.setCell ⟨w0.heap.size + 1 + 1, 2, none⟩ (.string x)) :=
  ⟨Below.setCell h.kp (p := ⟨w0.heap.size + 1 + 1, 2, none⟩) (by simp only; omega) _, (ps_other (by omega) _ _).trans h.b0, (ps_other (by omega) _ _).trans h.b1, ps_heap h.b2 2 _⟩
theorem CutW.setD (h : CutW w0 fy fp fd fn fe k y m d w) (x : ByteArray) : CutW w0 fy fp fd fn fe k y m x (w.setCell ⟨w0.heap.size + 1 + 1, 3, none⟩ (.string x)) :=
  ⟨Below.setCell h.kp (p := ⟨w0.heap.size + 1 + 1, 3, none⟩) (by simp only; omega) _, (ps_other (by omega) _ _).trans h.b0, (ps_other (by omega) _ _).trans h.b1, ps_heap h.b2 3 _⟩
theorem CutW.result (h : CutW w0 fy fp fd fn fe k y m d w) : (w.cell? ⟨w0.heap.size, 0, none⟩ = some (.int .i64 0) ∧ w.cell? ⟨w0.heap.size, 1, none⟩ = some (.string ⟨#[]⟩) ∧ w.cell? ⟨w0.heap.size, 2, none⟩ = some (.string ⟨#[]⟩) ∧ w.cell? ⟨w0.heap.size, 3, none⟩ = some (.string ⟨#[]⟩)) ∧
    (w.frozen? ⟨w0.heap.size, 0, none⟩ = false ∧ w.frozen? ⟨w0.heap.size, 1, none⟩ = false ∧ w.frozen? ⟨w0.heap.size, 2, none⟩ = false ∧ w.frozen? ⟨w0.heap.size, 3, none⟩ = false) ∧
    ((w.setCell ⟨w0.heap.size, 0, none⟩ (.int .i64 k)).cell? ⟨w0.heap.size, 0, none⟩ = some (.int .i64 k) ∧
    ((w.setCell ⟨w0.heap.size, 0, none⟩ (.int .i64 k)).setCell ⟨w0.heap.size, 1, none⟩ (.string y)).cell? ⟨w0.heap.size, 1, none⟩ = some (.string y) ∧
    (((w.setCell ⟨w0.heap.size, 0, none⟩ (.int .i64 k)).setCell ⟨w0.heap.size, 1, none⟩ (.string y)).setCell ⟨w0.heap.size, 2, none⟩ (.string m)).cell? ⟨w0.heap.size, 2, none⟩ = some (.string m) ∧
    ((((w.setCell ⟨w0.heap.size, 0, none⟩ (.int .i64 k)).setCell ⟨w0.heap.size, 1, none⟩ (.string y)).setCell ⟨w0.heap.size, 2, none⟩ (.string m)).setCell ⟨w0.heap.size, 3, none⟩ (.string d)).cell? ⟨w0.heap.size, 3, none⟩ = some (.string d)) := by
  obtain ⟨_, h0, _, _⟩ := h
  have q0 := ps_heap h0 0 (.int .i64 k)
  have q1 := ps_heap q0 1 (.string y)
  have q2 := ps_heap q1 2 (.string m)
  have q3 := ps_heap q2 3 (.string d)
  refine ⟨⟨?_, ?_, ?_, ?_⟩, ⟨?_, ?_, ?_, ?_⟩, ?_, ?_, ?_, ?_⟩
  all_goals first | (simp [World.cell?, h0]; done) | (simp [World.frozen?, h0]; done) | (simp [World.cell?, q0]; done) | (simp [World.cell?, q1]; done) | (simp [World.cell?, q2]; done) | (simp [World.cell?, q3]; done)
theorem CutW.done (h : CutW w0 fy fp fd fn fe k y m d w) : Kp w0 ((((w.setCell ⟨w0.heap.size, 0, none⟩ (.int .i64 k)).setCell ⟨w0.heap.size, 1, none⟩ (.string y)).setCell ⟨w0.heap.size, 2, none⟩ (.string m)).setCell ⟨w0.heap.size, 3, none⟩ (.string d)) :=
  Below.setCell (Below.setCell (Below.setCell (Below.setCell h.kp (p := ⟨w0.heap.size, 0, none⟩) (Nat.le_refl _) _) (p := ⟨w0.heap.size, 1, none⟩) (Nat.le_refl _) _) (p := ⟨w0.heap.size, 2, none⟩) (Nat.le_refl _) _) (p := ⟨w0.heap.size, 3, none⟩) (Nat.le_refl _) _
/-- what is read of them, and may be written -/
theorem CutW.cells (h : CutW w0 fy fp fd fn fe k y m d w) : (w.cell? ⟨w0.heap.size + 1, 0, none⟩ = some (.int .i64 fy) ∧ w.cell? ⟨w0.heap.size + 1, 1, none⟩ = some (.int .i64 fp) ∧ w.cell? ⟨w0.heap.size + 1, 2, none⟩ = some (.int .i64 fd)) ∧
    (w.cell? ⟨w0.heap.size + 1 + 1, 0, none⟩ = some (.int .i64 k) ∧ w.cell? ⟨w0.heap.size + 1 + 1, 1, none⟩ = some (.string y) ∧ w.cell? ⟨w0.heap.size + 1 + 1, 2, none⟩ = some (.string m) ∧ w.cell? ⟨w0.heap.size + 1 + 1, 3, none⟩ = some (.string d)) ∧
    (w.frozen? ⟨w0.heap.size + 1 + 1, 1, none⟩ = false ∧ w.frozen? ⟨w0.heap.size + 1 + 1, 2, none⟩ = false ∧ w.frozen? ⟨w0.heap.size + 1 + 1, 3, none⟩ = false) := by
  obtain ⟨_, _, h1, h2⟩ := h
  refine ⟨⟨?_, ?_, ?_⟩, ⟨?_, ?_, ?_, ?_⟩, ?_, ?_, ?_⟩
  all_goals first | (simp [World.cell?, h1]; done) | (simp [World.cell?, h2]; done) | (simp [World.frozen?, h2]; done)
end
set_option maxHeartbeats 16000000 in
set_option maxRecDepth 100000 in
theorem cut_any0 (s : ByteArray) (w : World) (hs : s.size ≤ 3000) (T : TabSH w) : Calls Tryd.prog 66 #[.int .i64 0, .string s] w fun e w' => e = .returned (ptV (cutP 0 s)) ∧ Kp w w' := by
  have zs : s.size ≤ 3000 := hs
  obtain ⟨h1, eh1⟩ : ∃ z, z = hdS s 4 := ⟨_, rfl⟩
  obtain ⟨s1, es1⟩ : ∃ z, z = tlS s 4 := ⟨_, rfl⟩
  have zs1 : s1.size ≤ 3000 := by rw [es1]; exact Nat.le_trans (tlS_size _ _) zs
  have zs1 := zs1
  clear zs1
  have S1 := Lib.hid (fun w => (by rw [eh1, es1]; exact split_any s 4 4 w rfl (by decide) zs : Calls Tryd.prog 71 #[.string s, .int .i64 4] w fun e w' => e = .returned (.tuple #[.string h1, .string s1]) ∧ Kp w w'))
  obtain ⟨h2, eh2⟩ : ∃ z, z = hdS s1 1 := ⟨_, rfl⟩
  obtain ⟨s2, es2⟩ : ∃ z, z = tlS s1 1 := ⟨_, rfl⟩
  have zs12 : s2.size ≤ 3000 := by rw [es2]; exact Nat.le_trans (tlS_size _ _) zs1
  have zs2 := zs12
  clear zs12
  have S2 := Lib.hid (fun w => (by rw [eh2, es2]; exact split_any s1 1 1 w rfl (by decide) zs1 : Calls Tryd.prog 71 #[.string s1, .int .i64 1] w fun e w' => e = .returned (.tuple #[.string h2, .string s2]) ∧ Kp w w'))
  obtain ⟨h3, eh3⟩ : ∃ z, z = hdS s2 2 := ⟨_, rfl⟩
  obtain ⟨s3, es3⟩ : ∃ z, z = tlS s2 2 := ⟨_, rfl⟩
  have zs23 : s3.size ≤ 3000 := by rw [es3]; exact Nat.le_trans (tlS_size _ _) zs2
  have zs3 := zs23
  clear zs23
  have S3 := Lib.hid (fun w => (by rw [eh3, es3]; exact split_any s2 2 2 w rfl (by decide) zs2 : Calls Tryd.prog 71 #[.string s2, .int .i64 2] w fun e w' => e = .returned (.tuple #[.string h3, .string s3]) ∧ Kp w w'))
  obtain ⟨h4, eh4⟩ : ∃ z, z = hdS s3 1 := ⟨_, rfl⟩
  obtain ⟨s4, es4⟩ : ∃ z, z = tlS s3 1 := ⟨_, rfl⟩
  have zs34 : s4.size ≤ 3000 := by rw [es4]; exact Nat.le_trans (tlS_size _ _) zs3
  have zs4 := zs34
  clear zs34
  have S4 := Lib.hid (fun w => (by rw [eh4, es4]; exact split_any s3 1 1 w rfl (by decide) zs3 : Calls Tryd.prog 71 #[.string s3, .int .i64 1] w fun e w' => e = .returned (.tuple #[.string h4, .string s4]) ∧ Kp w w'))
  obtain ⟨h5, eh5⟩ : ∃ z, z = hdS s4 2 := ⟨_, rfl⟩
  obtain ⟨s5, es5⟩ : ∃ z, z = tlS s4 2 := ⟨_, rfl⟩
  have zs45 : s5.size ≤ 3000 := by rw [es5]; exact Nat.le_trans (tlS_size _ _) zs4
  have zs5 := zs45
  clear zs45
  have S5 := Lib.hid (fun w => (by rw [eh5, es5]; exact split_any s4 2 2 w rfl (by decide) zs4 : Calls Tryd.prog 71 #[.string s4, .int .i64 2] w fun e w' => e = .returned (.tuple #[.string h5, .string s5]) ∧ Kp w w'))
  have RV : ptV (cutP 0 s) = .agg #[.int .i64 0, .string h1, .string h3, .string h5] := by
    subst eh1 es1 eh2 es2 eh3 es3 eh4 es4 eh5 es5
    rfl
  rw [RV]
  clear RV eh1 es1 eh2 es2 eh3 es3 eh4 es4 eh5 es5 zs zs1 zs2 zs3 zs4 zs5 hs
  obtain ⟨V, hV⟩ : ∃ x, x = ((w.alloc (.cells #[.int .i64 0, .string ⟨#[]⟩, .string ⟨#[]⟩, .string ⟨#[]⟩] 23)).alloc (.cells #[.int .i64 4, .int .i64 2, .int .i64 2, .int .i64 12, .string ⟨#[]⟩] 89)).alloc (.cells #[.int .i64 0, .string ⟨#[]⟩, .string ⟨#[]⟩, .string ⟨#[]⟩] 23) := ⟨_, rfl⟩
  have C0 := Lib.hid (show CutW w 4 2 2 12 ⟨#[]⟩ 0 ⟨#[]⟩ ⟨#[]⟩ ⟨#[]⟩ V by
    rw [hV]
    exact ⟨((Kp.alloc _ _).trans (Kp.alloc _ _)).trans (Kp.alloc _ _), heap_block (Kp.alloc _ _) (heap_block (Kp.alloc _ _) (heap_at _ _ _ rfl)), heap_block (Kp.alloc _ _) (heap_at _ _ _ (by simp)), heap_at _ _ _ (by simp)⟩)
  have HV := Lib.hid hV
  have t0 : w.cell? ⟨0, 0, none⟩ = some (.int .i64 4) := T.cell 0 (by omega)
  have t1 : w.cell? ⟨0, 1, none⟩ = some (.int .i64 2) := T.cell 1 (by omega)
  have t2 : w.cell? ⟨0, 2, none⟩ = some (.int .i64 2) := T.cell 2 (by omega)
  have t3 : w.cell? ⟨0, 3, none⟩ = some (.int .i64 12) := T.cell 3 (by omega)
  have t4 : w.cell? ⟨0, 4, none⟩ = some (.string ⟨#[]⟩) := T.cell 4 (by omega)
  have tl := World.block_lt_of_cell? _ _ t0
  have tn : ¬ 0 = w.heap.size := by simp only at tl; omega
  clear hV T
  go_enter Tryd.func66, Tryd.ntmps66
  go_wp2_with fail
  rw [← HV.out]
  clear t0 t1 t2 t3 t4
  obtain ⟨⟨a0, a1, a2⟩, ⟨p0, p1, p2, p3⟩, f1, f2, f3⟩ := C0.out.cells
  refine (S1.out _).mono ?_
  rintro e w1 ⟨rfl, kk⟩
  have C1 := Lib.hid (C0.out.up kk)
  clear kk a0 a1 a2 p0 p1 p2 p3 f1 f2 f3
  obtain ⟨⟨a0, a1, a2⟩, ⟨p0, p1, p2, p3⟩, f1, f2, f3⟩ := C1.out.cells
  have D1 := Lib.hid (C1.out.setY h1)
  go_wp2_with fail
  refine (S2.out _).mono ?_
  rintro e w2 ⟨rfl, kk⟩
  have C2 := Lib.hid (D1.out.up kk)
  clear kk a0 a1 a2 p0 p1 p2 p3 f1 f2 f3
  obtain ⟨⟨a0, a1, a2⟩, ⟨p0, p1, p2, p3⟩, f1, f2, f3⟩ := C2.out.cells
  go_wp2_with fail
  refine (S3.out _).mono ?_
  rintro e w3 ⟨rfl, kk⟩
  have C3 := Lib.hid (C2.out.up kk)
  clear kk a0 a1 a2 p0 p1 p2 p3 f1 f2 f3
  obtain ⟨⟨a0, a1, a2⟩, ⟨p0, p1, p2, p3⟩, f1, f2, f3⟩ := C3.out.cells
  have D3 := Lib.hid (C3.out.setM h3)
  go_wp2_with fail
  refine (S4.out _).mono ?_
  rintro e w4 ⟨rfl, kk⟩
  have C4 := Lib.hid (D3.out.up kk)
  clear kk a0 a1 a2 p0 p1 p2 p3 f1 f2 f3
  obtain ⟨⟨a0, a1, a2⟩, ⟨p0, p1, p2, p3⟩, f1, f2, f3⟩ := C4.out.cells
  go_wp2_with fail
  refine (S5.out _).mono ?_
  rintro e w5 ⟨rfl, kk⟩
  have C5 := Lib.hid (C4.out.up kk)
  clear kk a0 a1 a2 p0 p1 p2 p3 f1 f2 f3
  obtain ⟨⟨a0, a1, a2⟩, ⟨p0, p1, p2, p3⟩, f1, f2, f3⟩ := C5.out.cells
  have D5 := Lib.hid (C5.out.setD h5)
  obtain ⟨⟨e0, e1, e2, e3⟩, ⟨g0, g1, g2, g3⟩, x0, x1, x2, x3⟩ := D5.out.result
  have KE := Lib.hid (D5.out.done)
  go_wp2
  exact bodyPost_ret (v := .agg #[.int .i64 0, .string h1, .string h3, .string h5]) (by simp [results, Tryd.results66, go_sem, x0, x1, x2, x3]) rfl ⟨rfl, KE.out⟩
set_option maxHeartbeats 16000000 in
set_option maxRecDepth 100000 in
theorem cut_any1 (s : ByteArray) (w : World) (hs : s.size ≤ 3000) (T : TabSH w) : Calls Tryd.prog 66 #[.int .i64 1, .string s] w fun e w' => e = .returned (ptV (cutP 1 s)) ∧ Kp w w' := by
  have zs : s.size ≤ 3000 := hs
  obtain ⟨h1, eh1⟩ : ∃ z, z = hdS s 4 := ⟨_, rfl⟩
  obtain ⟨s1, es1⟩ : ∃ z, z = tlS s 4 := ⟨_, rfl⟩
  have zs1 : s1.size ≤ 3000 := by rw [es1]; exact Nat.le_trans (tlS_size _ _) zs
  have zs1 := zs1
  clear zs1
  have S1 := Lib.hid (fun w => (by rw [eh1, es1]; exact split_any s 4 4 w rfl (by decide) zs : Calls Tryd.prog 71 #[.string s, .int .i64 4] w fun e w' => e = .returned (.tuple #[.string h1, .string s1]) ∧ Kp w w'))
  obtain ⟨h2, eh2⟩ : ∃ z, z = hdS s1 1 := ⟨_, rfl⟩
  obtain ⟨s2, es2⟩ : ∃ z, z = tlS s1 1 := ⟨_, rfl⟩
  have zs12 : s2.size ≤ 3000 := by rw [es2]; exact Nat.le_trans (tlS_size _ _) zs1
  have zs2 := zs12
  clear zs12
  have S2 := Lib.hid (fun w => (by rw [eh2, es2]; exact split_any s1 1 1 w rfl (by decide) zs1 : Calls Tryd.prog 71 #[.string s1, .int .i64 1] w fun e w' => e = .returned (.tuple #[.string h2, .string s2]) ∧ Kp w w'))
  obtain ⟨h3, eh3⟩ : ∃ z, z = hdS s2 2 := ⟨_, rfl⟩
  obtain ⟨s3, es3⟩ : ∃ z, z = tlS s2 2 := ⟨_, rfl⟩
  have zs23 : s3.size ≤ 3000 := by rw [es3]; exact Nat.le_trans (tlS_size _ _) zs2
  have zs3 := zs23
  clear zs23
  have S3 := Lib.hid (fun w => (by rw [eh3, es3]; exact split_any s2 2 2 w rfl (by decide) zs2 : Calls Tryd.prog 71 #[.string s2, .int .i64 2] w fun e w' => e = .returned (.tuple #[.string h3, .string s3]) ∧ Kp w w'))
  have RV : ptV (cutP 1 s) = .agg #[.int .i64 1, .string h1, .string h3, .string ⟨#[]⟩] := by
    subst eh1 es1 eh2 es2 eh3 es3
    rfl
  rw [RV]
  clear RV eh1 es1 eh2 es2 eh3 es3 zs zs1 zs2 zs3 hs
  obtain ⟨V, hV⟩ : ∃ x, x = ((w.alloc (.cells #[.int .i64 0, .string ⟨#[]⟩, .string ⟨#[]⟩, .string ⟨#[]⟩] 23)).alloc (.cells #[.int .i64 4, .int .i64 2, .int .i64 0, .int .i64 12, .string ⟨#[]⟩] 89)).alloc (.cells #[.int .i64 1, .string ⟨#[]⟩, .string ⟨#[]⟩, .string ⟨#[]⟩] 23) := ⟨_, rfl⟩
  have C0 := Lib.hid (show CutW w 4 2 0 12 ⟨#[]⟩ 1 ⟨#[]⟩ ⟨#[]⟩ ⟨#[]⟩ V by
    rw [hV]
    exact ⟨((Kp.alloc _ _).trans (Kp.alloc _ _)).trans (Kp.alloc _ _), heap_block (Kp.alloc _ _) (heap_block (Kp.alloc _ _) (heap_at _ _ _ rfl)), heap_block (Kp.alloc _ _) (heap_at _ _ _ (by simp)), heap_at _ _ _ (by simp)⟩)
  have HV := Lib.hid hV
  have t0 : w.cell? ⟨0, 5, none⟩ = some (.int .i64 4) := T.cell 5 (by omega)
  have t1 : w.cell? ⟨0, 6, none⟩ = some (.int .i64 2) := T.cell 6 (by omega)
  have t2 : w.cell? ⟨0, 7, none⟩ = some (.int .i64 0) := T.cell 7 (by omega)
  have t3 : w.cell? ⟨0, 8, none⟩ = some (.int .i64 12) := T.cell 8 (by omega)
  have t4 : w.cell? ⟨0, 9, none⟩ = some (.string ⟨#[]⟩) := T.cell 9 (by omega)
  have tl := World.block_lt_of_cell? _ _ t0
  have tn : ¬ 0 = w.heap.size := by simp only at tl; omega
  clear hV T
  go_enter Tryd.func66, Tryd.ntmps66
  go_wp2_with fail
  rw [← HV.out]
  clear t0 t1 t2 t3 t4
  obtain ⟨⟨a0, a1, a2⟩, ⟨p0, p1, p2, p3⟩, f1, f2, f3⟩ := C0.out.cells
  refine (S1.out _).mono ?_
  rintro e w1 ⟨rfl, kk⟩
  have C1 := Lib.hid (C0.out.up kk)
  clear kk a0 a1 a2 p0 p1 p2 p3 f1 f2 f3
  obtain ⟨⟨a0, a1, a2⟩, ⟨p0, p1, p2, p3⟩, f1, f2, f3⟩ := C1.out.cells
  have D1 := Lib.hid (C1.out.setY h1)
  go_wp2_with fail
  refine (S2.out _).mono ?_
  rintro e w2 ⟨rfl, kk⟩
  have C2 := Lib.hid (D1.out.up kk)
  clear kk a0 a1 a2 p0 p1 p2 p3 f1 f2 f3
  obtain ⟨⟨a0, a1, a2⟩, ⟨p0, p1, p2, p3⟩, f1, f2, f3⟩ := C2.out.cells
  go_wp2_with fail
  refine (S3.out _).mono ?_
  rintro e w3 ⟨rfl, kk⟩
  have C3 := Lib.hid (C2.out.up kk)
  clear kk a0 a1 a2 p0 p1 p2 p3 f1 f2 f3
  obtain ⟨⟨a0, a1, a2⟩, ⟨p0, p1, p2, p3⟩, f1, f2, f3⟩ := C3.out.cells
  have D3 := Lib.hid (C3.out.setM h3)
  obtain ⟨⟨e0, e1, e2, e3⟩, ⟨g0, g1, g2, g3⟩, x0, x1, x2, x3⟩ := D3.out.result
  have KE := Lib.hid (D3.out.done)
  go_wp2
  exact bodyPost_ret (v := .agg #[.int .i64 1, .string h1, .string h3, .string ⟨#[]⟩]) (by simp [results, Tryd.results66, go_sem, x0, x1, x2, x3]) rfl ⟨rfl, KE.out⟩
set_option maxHeartbeats 16000000 in
set_option maxRecDepth 100000 in
theorem cut_any2 (s : ByteArray) (w : World) (hs : s.size ≤ 3000) (T : TabSH w) : Calls Tryd.prog 66 #[.int .i64 2, .string s] w fun e w' => e = .returned (ptV (cutP 2 s)) ∧ Kp w w' := by
  have zs : s.size ≤ 3000 := hs
  obtain ⟨h1, eh1⟩ : ∃ z, z = hdS s 4 := ⟨_, rfl⟩
  obtain ⟨s1, es1⟩ : ∃ z, z = tlS s 4 := ⟨_, rfl⟩
  have zs1 : s1.size ≤ 3000 := by rw [es1]; exact Nat.le_trans (tlS_size _ _) zs
  have zs1 := zs1
  clear zs1
  have S1 := Lib.hid (fun w => (by rw [eh1, es1]; exact split_any s 4 4 w rfl (by decide) zs : Calls Tryd.prog 71 #[.string s, .int .i64 4] w fun e w' => e = .returned (.tuple #[.string h1, .string s1]) ∧ Kp w w'))
  obtain ⟨h2, eh2⟩ : ∃ z, z = hdS s1 1 := ⟨_, rfl⟩
  obtain ⟨s2, es2⟩ : ∃ z, z = tlS s1 1 := ⟨_, rfl⟩
  have zs12 : s2.size ≤ 3000 := by rw [es2]; exact Nat.le_trans (tlS_size _ _) zs1
  have zs2 := zs12
  clear zs12
  have S2 := Lib.hid (fun w => (by rw [eh2, es2]; exact split_any s1 1 1 w rfl (by decide) zs1 : Calls Tryd.prog 71 #[.string s1, .int .i64 1] w fun e w' => e = .returned (.tuple #[.string h2, .string s2]) ∧ Kp w w'))
  obtain ⟨h3, eh3⟩ : ∃ z, z = hdS s2 1 := ⟨_, rfl⟩
  obtain ⟨s3, es3⟩ : ∃ z, z = tlS s2 1 := ⟨_, rfl⟩
  have zs23 : s3.size ≤ 3000 := by rw [es3]; exact Nat.le_trans (tlS_size _ _) zs2
  have zs3 := zs23
  clear zs23
  have S3 := Lib.hid (fun w => (by rw [eh3, es3]; exact split_any s2 1 1 w rfl (by decide) zs2 : Calls Tryd.prog 71 #[.string s2, .int .i64 1] w fun e w' => e = .returned (.tuple #[.string h3, .string s3]) ∧ Kp w w'))
  have RV : ptV (cutP 2 s) = .agg #[.int .i64 2, .string h1, .string h3, .string ⟨#[]⟩] := by
    subst eh1 es1 eh2 es2 eh3 es3
    rfl
  rw [RV]
  clear RV eh1 es1 eh2 es2 eh3 es3 zs zs1 zs2 zs3 hs
  obtain ⟨V, hV⟩ : ∃ x, x = ((w.alloc (.cells #[.int .i64 0, .string ⟨#[]⟩, .string ⟨#[]⟩, .string ⟨#[]⟩] 23)).alloc (.cells #[.int .i64 4, .int .i64 1, .int .i64 0, .int .i64 4, .string ⟨#[]⟩] 89)).alloc (.cells #[.int .i64 2, .string ⟨#[]⟩, .string ⟨#[]⟩, .string ⟨#[]⟩] 23) := ⟨_, rfl⟩
  have C0 := Lib.hid (show CutW w 4 1 0 4 ⟨#[]⟩ 2 ⟨#[]⟩ ⟨#[]⟩ ⟨#[]⟩ V by
    rw [hV]
    exact ⟨((Kp.alloc _ _).trans (Kp.alloc _ _)).trans (Kp.alloc _ _), heap_block (Kp.alloc _ _) (heap_block (Kp.alloc _ _) (heap_at _ _ _ rfl)), heap_block (Kp.alloc _ _) (heap_at _ _ _ (by simp)), heap_at _ _ _ (by simp)⟩)
  have HV := Lib.hid hV
  have t0 : w.cell? ⟨0, 10, none⟩ = some (.int .i64 4) := T.cell 10 (by omega)
  have t1 : w.cell? ⟨0, 11, none⟩ = some (.int .i64 1) := T.cell 11 (by omega)
  have t2 : w.cell? ⟨0, 12, none⟩ = some (.int .i64 0) := T.cell 12 (by omega)
  have t3 : w.cell? ⟨0, 13, none⟩ = some (.int .i64 4) := T.cell 13 (by omega)
  have t4 : w.cell? ⟨0, 14, none⟩ = some (.string ⟨#[]⟩) := T.cell 14 (by omega)
  have tl := World.block_lt_of_cell? _ _ t0
  have tn : ¬ 0 = w.heap.size := by simp only at tl; omega
  clear hV T
  go_enter Tryd.func66, Tryd.ntmps66
  go_wp2_with fail
  rw [← HV.out]
  clear t0 t1 t2 t3 t4
  obtain ⟨⟨a0, a1, a2⟩, ⟨p0, p1, p2, p3⟩, f1, f2, f3⟩ := C0.out.cells
  refine (S1.out _).mono ?_
  rintro e w1 ⟨rfl, kk⟩
  have C1 := Lib.hid (C0.out.up kk)
  clear kk a0 a1 a2 p0 p1 p2 p3 f1 f2 f3
  obtain ⟨⟨a0, a1, a2⟩, ⟨p0, p1, p2, p3⟩, f1, f2, f3⟩ := C1.out.cells
  have D1 := Lib.hid (C1.out.setY h1)
  go_wp2_with fail
  refine (S2.out _).mono ?_
  rintro e w2 ⟨rfl, kk⟩
  have C2 := Lib.hid (D1.out.up kk)
  clear kk a0 a1 a2 p0 p1 p2 p3 f1 f2 f3
  obtain ⟨⟨a0, a1, a2⟩, ⟨p0, p1, p2, p3⟩, f1, f2, f3⟩ := C2.out.cells
  go_wp2_with fail
  refine (S3.out _).mono ?_
  rintro e w3 ⟨rfl, kk⟩
  have C3 := Lib.hid (C2.out.up kk)
  clear kk a0 a1 a2 p0 p1 p2 p3 f1 f2 f3
  obtain ⟨⟨a0, a1, a2⟩, ⟨p0, p1, p2, p3⟩, f1, f2, f3⟩ := C3.out.cells
  have D3 := Lib.hid (C3.out.setM h3)
  obtain ⟨⟨e0, e1, e2, e3⟩, ⟨g0, g1, g2, g3⟩, x0, x1, x2, x3⟩ := D3.out.result
  have KE := Lib.hid (D3.out.done)
  go_wp2
  exact bodyPost_ret (v := .agg #[.int .i64 2, .string h1, .string h3, .string ⟨#[]⟩]) (by simp [results, Tryd.results66, go_sem, x0, x1, x2, x3]) rfl ⟨rfl, KE.out⟩
set_option maxHeartbeats 16000000 in
set_option maxRecDepth 100000 in
theorem cut_any3 (s : ByteArray) (w : World) (hs : s.size ≤ 3000) (T : TabSH w) : Calls Tryd.prog 66 #[.int .i64 3, .string s] w fun e w' => e = .returned (ptV (cutP 3 s)) ∧ Kp w w' := by
  have zs : s.size ≤ 3000 := hs
  obtain ⟨h1, eh1⟩ : ∃ z, z = hdS s 4 := ⟨_, rfl⟩
  obtain ⟨s1, es1⟩ : ∃ z, z = tlS s 4 := ⟨_, rfl⟩
  have zs1 : s1.size ≤ 3000 := by rw [es1]; exact Nat.le_trans (tlS_size _ _) zs
  have zs1 := zs1
  clear zs1
  have S1 := Lib.hid (fun w => (by rw [eh1, es1]; exact split_any s 4 4 w rfl (by decide) zs : Calls Tryd.prog 71 #[.string s, .int .i64 4] w fun e w' => e = .returned (.tuple #[.string h1, .string s1]) ∧ Kp w w'))
  have RV : ptV (cutP 3 s) = .agg #[.int .i64 3, .string h1, .string ⟨#[]⟩, .string ⟨#[]⟩] := by
    subst eh1 es1
    rfl
  rw [RV]
  clear RV eh1 es1 zs zs1 hs
  obtain ⟨V, hV⟩ : ∃ x, x = ((w.alloc (.cells #[.int .i64 0, .string ⟨#[]⟩, .string ⟨#[]⟩, .string ⟨#[]⟩] 23)).alloc (.cells #[.int .i64 4, .int .i64 0, .int .i64 0, .int .i64 0, .string ⟨#[]⟩] 89)).alloc (.cells #[.int .i64 3, .string ⟨#[]⟩, .string ⟨#[]⟩, .string ⟨#[]⟩] 23) := ⟨_, rfl⟩
  have C0 := Lib.hid (show CutW w 4 0 0 0 ⟨#[]⟩ 3 ⟨#[]⟩ ⟨#[]⟩ ⟨#[]⟩ V by
    rw [hV]
    exact ⟨((Kp.alloc _ _).trans (Kp.alloc _ _)).trans (Kp.alloc _ _), heap_block (Kp.alloc _ _) (heap_block (Kp.alloc _ _) (heap_at _ _ _ rfl)), heap_block (Kp.alloc _ _) (heap_at _ _ _ (by simp)), heap_at _ _ _ (by simp)⟩)
  have HV := Lib.hid hV
  have t0 : w.cell? ⟨0, 15, none⟩ = some (.int .i64 4) := T.cell 15 (by omega)
  have t1 : w.cell? ⟨0, 16, none⟩ = some (.int .i64 0) := T.cell 16 (by omega)
  have t2 : w.cell? ⟨0, 17, none⟩ = some (.int .i64 0) := T.cell 17 (by omega)
  have t3 : w.cell? ⟨0, 18, none⟩ = some (.int .i64 0) := T.cell 18 (by omega)
  have t4 : w.cell? ⟨0, 19, none⟩ = some (.string ⟨#[]⟩) := T.cell 19 (by omega)
  have tl := World.block_lt_of_cell? _ _ t0
  have tn : ¬ 0 = w.heap.size := by simp only at tl; omega
  clear hV T
  go_enter Tryd.func66, Tryd.ntmps66
  go_wp2_with fail
  rw [← HV.out]
  clear t0 t1 t2 t3 t4
  obtain ⟨⟨a0, a1, a2⟩, ⟨p0, p1, p2, p3⟩, f1, f2, f3⟩ := C0.out.cells
  refine (S1.out _).mono ?_
  rintro e w1 ⟨rfl, kk⟩
  have C1 := Lib.hid (C0.out.up kk)
  clear kk a0 a1 a2 p0 p1 p2 p3 f1 f2 f3
  obtain ⟨⟨a0, a1, a2⟩, ⟨p0, p1, p2, p3⟩, f1, f2, f3⟩ := C1.out.cells
  have D1 := Lib.hid (C1.out.setY h1)
  obtain ⟨⟨e0, e1, e2, e3⟩, ⟨g0, g1, g2, g3⟩, x0, x1, x2, x3⟩ := D1.out.result
  have KE := Lib.hid (D1.out.done)
  go_wp2
  exact bodyPost_ret (v := .agg #[.int .i64 3, .string h1, .string ⟨#[]⟩, .string ⟨#[]⟩]) (by simp [results, Tryd.results66, go_sem, x0, x1, x2, x3]) rfl ⟨rfl, KE.out⟩
set_option maxHeartbeats 16000000 in
set_option maxRecDepth 100000 in
theorem cut_any4 (s : ByteArray) (w : World) (hs : s.size ≤ 3000) (T : TabSH w) : Calls Tryd.prog 66 #[.int .i64 4, .string s] w fun e w' => e = .returned (ptV (cutP 4 s)) ∧ Kp w w' := by
  have zs : s.size ≤ 3000 := hs
  obtain ⟨h1, eh1⟩ : ∃ z, z = hdS s 3 := ⟨_, rfl⟩
  obtain ⟨s1, es1⟩ : ∃ z, z = tlS s 3 := ⟨_, rfl⟩
  have zs1 : s1.size ≤ 3000 := by rw [es1]; exact Nat.le_trans (tlS_size _ _) zs
  have zs1 := zs1
  clear zs1
  have S1 := Lib.hid (fun w => (by rw [eh1, es1]; exact split_any s 3 3 w rfl (by decide) zs : Calls Tryd.prog 71 #[.string s, .int .i64 3] w fun e w' => e = .returned (.tuple #[.string h1, .string s1]) ∧ Kp w w'))
  have RV : ptV (cutP 4 s) = .agg #[.int .i64 4, .string h1, .string ⟨#[]⟩, .string ⟨#[]⟩] := by
    subst eh1 es1
    rfl
  rw [RV]
  clear RV eh1 es1 zs zs1 hs
  obtain ⟨V, hV⟩ : ∃ x, x = ((w.alloc (.cells #[.int .i64 0, .string ⟨#[]⟩, .string ⟨#[]⟩, .string ⟨#[]⟩] 23)).alloc (.cells #[.int .i64 3, .int .i64 0, .int .i64 0, .int .i64 0, .string ⟨#[100]⟩] 89)).alloc (.cells #[.int .i64 4, .string ⟨#[]⟩, .string ⟨#[]⟩, .string ⟨#[]⟩] 23) := ⟨_, rfl⟩
  have C0 := Lib.hid (show CutW w 3 0 0 0 ⟨#[100]⟩ 4 ⟨#[]⟩ ⟨#[]⟩ ⟨#[]⟩ V by
    rw [hV]
    exact ⟨((Kp.alloc _ _).trans (Kp.alloc _ _)).trans (Kp.alloc _ _), heap_block (Kp.alloc _ _) (heap_block (Kp.alloc _ _) (heap_at _ _ _ rfl)), heap_block (Kp.alloc _ _) (heap_at _ _ _ (by simp)), heap_at _ _ _ (by simp)⟩)
  have HV := Lib.hid hV
  have t0 : w.cell? ⟨0, 20, none⟩ = some (.int .i64 3) := T.cell 20 (by omega)
  have t1 : w.cell? ⟨0, 21, none⟩ = some (.int .i64 0) := T.cell 21 (by omega)
  have t2 : w.cell? ⟨0, 22, none⟩ = some (.int .i64 0) := T.cell 22 (by omega)
  have t3 : w.cell? ⟨0, 23, none⟩ = some (.int .i64 0) := T.cell 23 (by omega)
  have t4 : w.cell? ⟨0, 24, none⟩ = some (.string ⟨#[100]⟩) := T.cell 24 (by omega)
  have tl := World.block_lt_of_cell? _ _ t0
  have tn : ¬ 0 = w.heap.size := by simp only at tl; omega
  clear hV T
  go_enter Tryd.func66, Tryd.ntmps66
  go_wp2_with fail
  rw [← HV.out]
  clear t0 t1 t2 t3 t4
  obtain ⟨⟨a0, a1, a2⟩, ⟨p0, p1, p2, p3⟩, f1, f2, f3⟩ := C0.out.cells
  refine (S1.out _).mono ?_
  rintro e w1 ⟨rfl, kk⟩
  have C1 := Lib.hid (C0.out.up kk)
  clear kk a0 a1 a2 p0 p1 p2 p3 f1 f2 f3
  obtain ⟨⟨a0, a1, a2⟩, ⟨p0, p1, p2, p3⟩, f1, f2, f3⟩ := C1.out.cells
  have D1 := Lib.hid (C1.out.setY h1)
  obtain ⟨⟨e0, e1, e2, e3⟩, ⟨g0, g1, g2, g3⟩, x0, x1, x2, x3⟩ := D1.out.result
  have KE := Lib.hid (D1.out.done)
  go_wp2
  exact bodyPost_ret (v := .agg #[.int .i64 4, .string h1, .string ⟨#[]⟩, .string ⟨#[]⟩]) (by simp [results, Tryd.results66, go_sem, x0, x1, x2, x3]) rfl ⟨rfl, KE.out⟩
set_option maxHeartbeats 16000000 in
set_option maxRecDepth 100000 in
theorem cut_any5 (s : ByteArray) (w : World) (hs : s.size ≤ 3000) (T : TabSH w) : Calls Tryd.prog 66 #[.int .i64 5, .string s] w fun e w' => e = .returned (ptV (cutP 5 s)) ∧ Kp w w' := by
  have zs : s.size ≤ 3000 := hs
  obtain ⟨h1, eh1⟩ : ∃ z, z = hdS s 2 := ⟨_, rfl⟩
  obtain ⟨s1, es1⟩ : ∃ z, z = tlS s 2 := ⟨_, rfl⟩
  have zs1 : s1.size ≤ 3000 := by rw [es1]; exact Nat.le_trans (tlS_size _ _) zs
  have zs1 := zs1
  clear zs1
  have S1 := Lib.hid (fun w => (by rw [eh1, es1]; exact split_any s 2 2 w rfl (by decide) zs : Calls Tryd.prog 71 #[.string s, .int .i64 2] w fun e w' => e = .returned (.tuple #[.string h1, .string s1]) ∧ Kp w w'))
  have RV : ptV (cutP 5 s) = .agg #[.int .i64 5, .string h1, .string ⟨#[]⟩, .string ⟨#[]⟩] := by
    subst eh1 es1
    rfl
  rw [RV]
  clear RV eh1 es1 zs zs1 hs
  obtain ⟨V, hV⟩ : ∃ x, x = ((w.alloc (.cells #[.int .i64 0, .string ⟨#[]⟩, .string ⟨#[]⟩, .string ⟨#[]⟩] 23)).alloc (.cells #[.int .i64 2, .int .i64 0, .int .i64 0, .int .i64 0, .string ⟨#[99]⟩] 89)).alloc (.cells #[.int .i64 5, .string ⟨#[]⟩, .string ⟨#[]⟩, .string ⟨#[]⟩] 23) := ⟨_, rfl⟩
  have C0 := Lib.hid (show CutW w 2 0 0 0 ⟨#[99]⟩ 5 ⟨#[]⟩ ⟨#[]⟩ ⟨#[]⟩ V by
    rw [hV]
    exact ⟨((Kp.alloc _ _).trans (Kp.alloc _ _)).trans (Kp.alloc _ _), heap_block (Kp.alloc _ _) (heap_block (Kp.alloc _ _) (heap_at _ _ _ rfl)), heap_block (Kp.alloc _ _) (heap_at _ _ _ (by simp)), heap_at _ _ _ (by simp)⟩)
  have HV := Lib.hid hV
  have t0 : w.cell? ⟨0, 25, none⟩ = some (.int .i64 2) := T.cell 25 (by omega)
  have t1 : w.cell? ⟨0, 26, none⟩ = some (.int .i64 0) := T.cell 26 (by omega)
  have t2 : w.cell? ⟨0, 27, none⟩ = some (.int .i64 0) := T.cell 27 (by omega)
  have t3 : w.cell? ⟨0, 28, none⟩ = some (.int .i64 0) := T.cell 28 (by omega)
  have t4 : w.cell? ⟨0, 29, none⟩ = some (.string ⟨#[99]⟩) := T.cell 29 (by omega)
  have tl := World.block_lt_of_cell? _ _ t0
  have tn : ¬ 0 = w.heap.size := by simp only at tl; omega
  clear hV T
  go_enter Tryd.func66, Tryd.ntmps66
  go_wp2_with fail
  rw [← HV.out]
  clear t0 t1 t2 t3 t4
  obtain ⟨⟨a0, a1, a2⟩, ⟨p0, p1, p2, p3⟩, f1, f2, f3⟩ := C0.out.cells
  refine (S1.out _).mono ?_
  rintro e w1 ⟨rfl, kk⟩
  have C1 := Lib.hid (C0.out.up kk)
  clear kk a0 a1 a2 p0 p1 p2 p3 f1 f2 f3
  obtain ⟨⟨a0, a1, a2⟩, ⟨p0, p1, p2, p3⟩, f1, f2, f3⟩ := C1.out.cells
  have D1 := Lib.hid (C1.out.setY h1)
  obtain ⟨⟨e0, e1, e2, e3⟩, ⟨g0, g1, g2, g3⟩, x0, x1, x2, x3⟩ := D1.out.result
  have KE := Lib.hid (D1.out.done)
  go_wp2
  exact bodyPost_ret (v := .agg #[.int .i64 5, .string h1, .string ⟨#[]⟩, .string ⟨#[]⟩]) (by simp [results, Tryd.results66, go_sem, x0, x1, x2, x3]) rfl ⟨rfl, KE.out⟩
end Go.Proofs.YtndmohamjffpcaaDoor

namespace Go.Proofs.YtndmohamjffpcaaDoor
open Go.RowKit
set_option linter.unusedVariables false
set_option linter.unusedSimpArgs false
theorem cutI_any (i : Nat) (hi : i < 6) (s : ByteArray) (w : World) (hs : s.size ≤ 3000) (T : TabSH w) : Calls Tryd.prog 66 #[.int .i64 (i : Int), .string s] w fun e w' => e = .returned (ptV (cutP i s)) ∧ Kp w w' := by
  have : i = 0 ∨ i = 1 ∨ i = 2 ∨ i = 3 ∨ i = 4 ∨ i = 5 := by omega
  rcases this with rfl | rfl | rfl | rfl | rfl | rfl
  · exact cut_any0 s w hs T
  · exact cut_any1 s w hs T
  · exact cut_any2 s w hs T
  · exact cut_any3 s w hs T
  · exact cut_any4 s w hs T
  · exact cut_any5 s w hs T
/-- is a kind's point the text's? -/
def rdB (s : ByteArray) (k : Int) : Bool := saneP (cutP k s) && ((textP (cutP k s)).toList == s.toList)
def rdF (s : ByteArray) : Nat → Nat → PT × Bool
  | 0, _ => (⟨0, ⟨#[]⟩, ⟨#[]⟩, ⟨#[]⟩⟩, false)
  | n + 1, k => if rdB s (k : Nat) = true then (cutP (k : Nat) s, true) else rdF s n (k + 1)
/-- the point of a text -/
def readP (s : ByteArray) : PT × Bool := rdF s 6 0
theorem rdF_yes {s : ByteArray} {k : Nat} (h : k < 6) (g : rdB s (k : Nat) = true) : rdF s (6 - k) k = (cutP (k : Nat) s, true) := by
  rw [show 6 - k = (6 - (k + 1)) + 1 by omega]
  unfold rdF
  rw [if_pos g]
theorem rdF_no {s : ByteArray} {k : Nat} (h : k < 6) (g : rdB s (k : Nat) = false) : rdF s (6 - k) k = rdF s (6 - (k + 1)) (k + 1) := by
  rw [show 6 - k = (6 - (k + 1)) + 1 by omega, rdF, if_neg (by rw [g]; decide)]
theorem res4 {w : World} {b : Nat} {t : TypeId} (h : w.heap[b]? = some (.cells #[.int .i64 0, .string ⟨#[]⟩, .string ⟨#[]⟩, .string ⟨#[]⟩] t (0, 0))) (k : Int) (y m d : ByteArray) : (w.cell? ⟨b, 0, none⟩ = some (.int .i64 0) ∧ w.cell? ⟨b, 1, none⟩ = some (.string ⟨#[]⟩) ∧ w.cell? ⟨b, 2, none⟩ = some (.string ⟨#[]⟩) ∧ w.cell? ⟨b, 3, none⟩ = some (.string ⟨#[]⟩)) ∧
    (w.frozen? ⟨b, 0, none⟩ = false ∧ w.frozen? ⟨b, 1, none⟩ = false ∧ w.frozen? ⟨b, 2, none⟩ = false ∧ w.frozen? ⟨b, 3, none⟩ = false) ∧
    ((w.setCell ⟨b, 0, none⟩ (.int .i64 k)).cell? ⟨b, 0, none⟩ = some (.int .i64 k) ∧
    ((w.setCell ⟨b, 0, none⟩ (.int .i64 k)).setCell ⟨b, 1, none⟩ (.string y)).cell? ⟨b, 1, none⟩ = some (.string y) ∧
    (((w.setCell ⟨b, 0, none⟩ (.int .i64 k)).setCell ⟨b, 1, none⟩ (.string y)).setCell ⟨b, 2, none⟩ (.string m)).cell? ⟨b, 2, none⟩ = some (.string m) ∧
    ((((w.setCell ⟨b, 0, none⟩ (.int .i64 k)).setCell ⟨b, 1, none⟩ (.string y)).setCell ⟨b, 2, none⟩ (.string m)).setCell ⟨b, 3, none⟩ (.string d)).cell? ⟨b, 3, none⟩ = some (.string d)) := by
  have q0 := ps_heap h 0 (.int .i64 k)
  have q1 := ps_heap q0 1 (.string y)
  have q2 := ps_heap q1 2 (.string m)
  have q3 := ps_heap q2 3 (.string d)
  refine ⟨⟨?_, ?_, ?_, ?_⟩, ⟨?_, ?_, ?_, ?_⟩, ?_, ?_, ?_, ?_⟩
  all_goals first | (simp [World.cell?, h]; done) | (simp [World.frozen?, h]; done) | (simp [World.cell?, q0]; done) | (simp [World.cell?, q1]; done) | (simp [World.cell?, q2]; done) | (simp [World.cell?, q3]; done)
theorem res4_kp {w0 w : World} (h : Kp w0 w) (k : Int) (y m d : ByteArray) {b : Nat} (hb : w0.heap.size ≤ b) : Kp w0 ((((w.setCell ⟨b, 0, none⟩ (.int .i64 k)).setCell ⟨b, 1, none⟩ (.string y)).setCell ⟨b, 2, none⟩ (.string m)).setCell ⟨b, 3, none⟩ (.string d)) :=
  Below.setCell (Below.setCell (Below.setCell (Below.setCell h (p := ⟨b, 0, none⟩) hb _) (p := ⟨b, 1, none⟩) hb _) (p := ⟨b, 2, none⟩) hb _) (p := ⟨b, 3, none⟩) hb _
set_option maxHeartbeats 16000000 in
set_option maxRecDepth 100000 in
theorem ptRead_any (s : ByteArray) (w : World) (hs : s.size ≤ 3000) (T : TabSH w) : Calls Tryd.prog 57 #[.string s] w fun e w' => e = .returned (.tuple #[ptV (readP s).1, .bool (readP s).2]) ∧ Kp w w' := by
  have CC0 := Lib.hid (fun (i : Nat) (hi : i < 6) w1 (q : Kp w w1) => cutI_any i hi s w1 hs (T.kp q))
  have CS0 := Lib.hid (fun p w1 (q : Kp w w1) => ptSane_any p w1 (T.kp q))
  have CT0 := Lib.hid (fun p w1 (q : Kp w w1) => ptText_any p w1 (T.kp q))
  obtain ⟨W0, hW⟩ : ∃ x, x = w.alloc (.cells #[.int .i64 0, .string ⟨#[]⟩, .string ⟨#[]⟩, .string ⟨#[]⟩] 23) := ⟨_, rfl⟩
  have k0 : Kp w W0 := by rw [hW]; exact Kp.alloc _ _
  have HG := Lib.hid (show W0.heap[w.heap.size]? = some (.cells #[.int .i64 0, .string ⟨#[]⟩, .string ⟨#[]⟩, .string ⟨#[]⟩] 23 (0, 0)) by rw [hW]; exact heap_at _ _ _ rfl)
  have HW := Lib.hid hW
  have K0 := Lib.hid k0
  have J0 := Lib.hid (Kp.refl W0)
  have RD0 := Lib.hid (show rdF s (6 - 0) 0 = readP s from rfl)
  generalize readP s = res at *
  obtain ⟨⟨rk, ry, rm, rd⟩, rb⟩ := res
  simp only [ptV]
  clear hs T hW k0
  go_enter Tryd.func57, Tryd.ntmps57
  go_wp2_with fail
  rw [← HW.out]
  go_loopw [6] (fun iv wr => ∃ k : Nat, k ≤ 6 ∧ iv = .int .i64 k ∧ Hid (rdF s (6 - k) k = (⟨rk, ry, rm, rd⟩, rb)) ∧ Hid (Kp W0 wr)) (fun iv _ => 6 - (intOf iv).toNat)
  case atStart => exact ⟨0, by omega, rfl, RD0, J0⟩
  case round =>
    obtain ⟨k, hk, rfl, RD, J⟩ := hrel
    by_cases hlt : k < 6
    · have CC := Lib.hid (CC0.out k hlt)
      have CS := Lib.hid (CS0.out (cutP k s))
      have CT := Lib.hid (CT0.out (cutP k s))
      have YS := Lib.hid (fun g => rdF_yes (s := s) hlt g)
      have NO := Lib.hid (fun g => rdF_no (s := s) hlt g)
      unfold rdB at YS NO
      have KR := Lib.hid (K0.out.trans J.out)
      have HK1 := Lib.hid (show k + 1 ≤ 6 by omega)
      have HKV := Lib.hid (show Value.int IntKind.i64 ((k : Int) + 1) = Value.int IntKind.i64 ((k + 1 : Nat) : Int) from by simp)
      have HLT := Lib.hid hlt
      have z1 : (k : Int) < 6 := by omega
      have z2 : (0 : Int) ≤ (k : Int) := by omega
      generalize cutP (k : Int) s = p at *
      generalize saneP p = b1 at *
      generalize textP p = tx at *
      obtain ⟨pk, y, m, d⟩ := p
      simp only [ptV] at CC CS CT
      go_wp2_with fail
      refine (CC.out _ KR.out).mono ?_
      rintro e w1 ⟨rfl, kk⟩
      obtain ⟨V, hV⟩ : ∃ x, x = w1.alloc (.cells #[.int .i64 pk, .string y, .string m, .string d] 23) := ⟨_, rfl⟩
      have kv : Kp wr V := by rw [hV]; exact kk.trans (Kp.alloc _ _)
      have hg : V.heap[w1.heap.size]? = some (.cells #[.int .i64 pk, .string y, .string m, .string d] 23 (0, 0)) := by rw [hV]; exact heap_at _ _ _ rfl
      have HB := Lib.hid (fun w2 (q : Kp V w2) => show w2.cell? ⟨w1.heap.size, 0, none⟩ = some (.int .i64 pk) ∧ w2.cell? ⟨w1.heap.size, 1, none⟩ = some (.string y) ∧ w2.cell? ⟨w1.heap.size, 2, none⟩ = some (.string m) ∧ w2.cell? ⟨w1.heap.size, 3, none⟩ = some (.string d) from ⟨cell_up q (by simp [World.cell?, hg]), cell_up q (by simp [World.cell?, hg]), cell_up q (by simp [World.cell?, hg]), cell_up q (by simp [World.cell?, hg])⟩)
      have HV := Lib.hid hV
      have KV := Lib.hid (KR.out.trans kv)
      have JV := Lib.hid (J.out.trans kv)
      clear hV hg kv kk
      go_wp2_with fail
      rw [← HV.out]
      refine (CS.out _ KV.out).mono ?_
      rintro e w2 ⟨rfl, kk⟩
      have K2 := Lib.hid kk
      clear kk
      cases b1 with
      | false =>
        have RD2 := Lib.hid ((NO.out rfl).symm.trans RD.out)
        have JE := Lib.hid (JV.out.trans K2.out)
        go_wp2
        go_roundw
        case rel => exact ⟨k + 1, HK1.out, HKV.out, RD2, JE⟩
        case measure => have := HLT.out; simp [intOf]; omega
      | true =>
        obtain ⟨c0, c1, c2, c3⟩ := HB.out w2 K2.out
        go_wp2_with fail
        refine (CT.out _ (KV.out.trans K2.out)).mono ?_
        rintro e w3 ⟨rfl, kk⟩
        have K3 := Lib.hid (K2.out.trans kk)
        clear kk c0 c1 c2 c3
        obtain ⟨c0, c1, c2, c3⟩ := HB.out w3 K3.out
        cases hq : (tx.toList == s.toList) with
        | false =>
          have RD2 := Lib.hid ((NO.out (by rw [hq]; rfl)).symm.trans RD.out)
          have JE := Lib.hid (JV.out.trans K3.out)
          go_wp2
          go_roundw
          case rel => exact ⟨k + 1, HK1.out, HKV.out, RD2, JE⟩
          case measure => have := HLT.out; simp [intOf]; omega
        | true =>
          have e := (YS.out (by rw [hq]; rfl)).symm.trans RD.out
          simp only [Prod.mk.injEq, PT.mk.injEq] at e
          obtain ⟨⟨rfl, rfl, rfl, rfl⟩, rfl⟩ := e
          obtain ⟨⟨e0, e1, e2, e3⟩, ⟨g0, g1, g2, g3⟩, x0, x1, x2, x3⟩ := res4 (heap_block (JV.out.trans K3.out) HG.out) pk y m d
          have KE := Lib.hid (res4_kp (KV.out.trans K3.out) pk y m d (Nat.le_refl w.heap.size))
          go_wp2
          exact bodyPost_ret (v := .tuple #[.agg #[.int .i64 pk, .string y, .string m, .string d], .bool true]) (by simp [results, Tryd.results57, go_sem, x0, x1, x2, x3]) rfl ⟨rfl, KE.out⟩
    · obtain rfl : k = 6 := by omega
      have e := (show ((⟨0, ⟨#[]⟩, ⟨#[]⟩, ⟨#[]⟩⟩ : PT), false) = (⟨rk, ry, rm, rd⟩, rb) from RD.out)
      simp only [Prod.mk.injEq, PT.mk.injEq] at e
      obtain ⟨⟨rfl, rfl, rfl, rfl⟩, rfl⟩ := e
      obtain ⟨⟨e0, e1, e2, e3⟩, ⟨g0, g1, g2, g3⟩, x0, x1, x2, x3⟩ := res4 (heap_block J.out HG.out) 0 ⟨#[]⟩ ⟨#[]⟩ ⟨#[]⟩
      have KE := Lib.hid (res4_kp (K0.out.trans J.out) 0 ⟨#[]⟩ ⟨#[]⟩ ⟨#[]⟩ (Nat.le_refl w.heap.size))
      go_wp2
      exact bodyPost_ret (v := .tuple #[.agg #[.int .i64 0, .string ⟨#[]⟩, .string ⟨#[]⟩, .string ⟨#[]⟩], .bool false]) (by simp [results, Tryd.results57, go_sem, x0, x1, x2, x3]) rfl ⟨rfl, KE.out⟩
end Go.Proofs.YtndmohamjffpcaaDoor
