/-
  Contracts of package narrow: longest, which sorts runs.
-/
import Derived.Test.YtjdnejglapnbbaaGreatDoorNwC
import Derived.Test.YtjdnejglapnbbaaGreatDoorGSoC
import Derived.Shelf.SlSortCmp.WholeK
import Derived.Shelf.SlSortCmp.NoneTotal
import Derived.Shelf.SlicesG.Cmp
import Derived.Shelf.Lay
import Derived.Ground.SlsfProg
import Derived.Ground.SlgcProg
namespace Go.Proofs
open Go.Shelf
shelf_lay_g SlLaysF0.n6 Slsf 6 at Tryz 156 as Tryz.sortRn
shelf_lay_g SlLaysC2.n5 Slgc 5 at Tryz 88 as Tryz.cmpRn
end Go.Proofs
namespace Go.Proofs.YtjdnejglapnbbaaGreatDoor
open Go.RowKit Go.Sort Go.Shelf Go.Lib
set_option linter.unusedVariables false
set_option linter.unusedSimpArgs false
/-- a world with draws and blocks more -/
def Grw (W w' : World) : Prop := ∃ q os, w' = grow (W.drewN q) os
theorem Grw.refl (W : World) : Grw W W := ⟨0, #[], by rw [grow_empty]; rfl⟩
theorem Grw.alloc {W w' : World} (h : Grw W w') (o : Obj) : Grw W (w'.alloc o) := by
  obtain ⟨q, os, rfl⟩ := h
  exact ⟨q, _, by rw [alloc_eq_grow, grow_grow]⟩
theorem Grw.drew {W w' : World} (h : Grw W w') : Grw W w'.drew := by
  obtain ⟨q, os, rfl⟩ := h
  exact ⟨q + 1, os, by rw [drew_grow]; rfl⟩
theorem Grw.drewN {W w' : World} (h : Grw W w') (n : Nat) : Grw W (w'.drewN n) := by
  induction n with
  | zero => exact h
  | succ n ih => exact ih.drew
def cmpL (x y : R) : Int := if Lib.compareInt x.1 y.1 = 0 then Lib.compareInt y.2 x.2 else Lib.compareInt x.1 y.1
theorem cmpI_cases (x y : Int) : (x < y ∧ Lib.compareInt x y = -1) ∨ (x = y ∧ Lib.compareInt x y = 0) ∨ (y < x ∧ Lib.compareInt x y = 1) := by
  unfold Lib.compareInt
  by_cases h1 : x < y
  · simp [h1]
  · by_cases h2 : y < x
    · simp [h1, h2]
    · right; left; simp [h1, h2]; omega
theorem ltL (x y : R) : ltOf cmpL x y = decide (x.1 < y.1 ∨ x.1 = y.1 ∧ y.2 < x.2) := by
  unfold ltOf cmpL
  rcases cmpI_cases x.1 y.1 with ⟨h, e⟩ | ⟨h, e⟩ | ⟨h, e⟩
  · rw [e]; simp [h]
  · rw [e]
    rcases cmpI_cases y.2 x.2 with ⟨g, e2⟩ | ⟨g, e2⟩ | ⟨g, e2⟩
    · rw [e2]; simp [h, g]
    · rw [e2]; simp [h, g]
    · rw [e2]; simp [h]; omega
  · rw [e]; simp; omega
theorem swoL : SWO (ltOf cmpL) where
  irrefl x := by rw [ltL]; simp
  trans x y z h1 h2 := by rw [ltL] at *; simp at *; omega
  ntrans x y z h1 h2 := by rw [ltL] at *; simp at *; omega
set_option maxHeartbeats 16000000 in
set_option maxRecDepth 100000 in
theorem orN_any (b : Nat) (x y : Int) (w : World) (hx : w.cell? ⟨b, 0, none⟩ = some (.int .i64 x)) (hy : w.cell? ⟨b, 1, none⟩ = some (.int .i64 y)) :
    Calls Tryz.prog 107 #[.slice (some ⟨b, 0, none⟩) 2 2] w fun e w' => e = .returned (.int .i64 (if x = 0 then y else x)) ∧ w = w' := by
  obtain ⟨r, hr⟩ : ∃ r : Int, (if x = 0 then y else x) = r := ⟨_, rfl⟩
  rw [hr]
  have HR := Lib.hid hr
  clear hr
  go_enter Tryz.func107, Tryz.ntmps107
  go_wp2
  go_loopw [8] (fun i wr => ∃ k : Nat, k ≤ 2 ∧ i = .int .i64 k ∧ wr = w ∧ Hid (1 ≤ k → x = 0) ∧ Hid (2 ≤ k → y = 0)) (fun i _ => 2 - (intOf i).toNat)
  case atStart => exact ⟨0, by omega, rfl, rfl, Lib.hid (fun h => by omega), Lib.hid (fun h => by omega)⟩
  case round =>
    obtain ⟨k, hk, rfl, rfl, H1, H2⟩ := hrel
    obtain rfl | rfl | rfl : k = 0 ∨ k = 1 ∨ k = 2 := by omega
    · by_cases h : x = 0
      · have q : (x != 0) = false := by simp [h]
        have h' := Lib.hid h
        clear h
        go_wp2
        go_roundw
        case rel => exact ⟨1, by omega, by rfl, by first | rfl | trivial, Lib.hid (fun _ => h'.out), Lib.hid (fun h => by omega)⟩
        case measure => simp [intOf]
      · have q : (x != 0) = true := by simp [h]
        have e := HR.out
        rw [if_neg h] at e
        subst e
        clear h
        go_wp2
        go_ret
        exact ⟨rfl, rfl⟩
    · have h0 := H1.out (by omega)
      have e := HR.out
      rw [if_pos h0] at e
      by_cases h : y = 0
      · have q : (y != 0) = false := by simp [h]
        have h' := Lib.hid h
        have H0 := Lib.hid h0
        clear h h0 e
        go_wp2
        go_roundw
        case rel => exact ⟨2, by omega, by rfl, by first | rfl | trivial, Lib.hid (fun _ => H0.out), Lib.hid (fun _ => h'.out)⟩
        case measure => simp [intOf]
      · have q : (y != 0) = true := by simp [h]
        subst e
        clear h h0
        go_wp2
        go_ret
        exact ⟨rfl, rfl⟩
    · have h0 := H1.out (by omega)
      have h1 := H2.out (by omega)
      have e := HR.out
      rw [if_pos h0, h1] at e
      subst e
      clear h0 h1
      go_wp2
      go_ret
      exact ⟨rfl, rfl⟩
abbrev nwlA0 : Oper := { dst := some 5, op := Go.Op.fieldAddr 53 (Go.Operand.tmp 2) 0, type := 0, pos := "bounds.go:50", after := #[], guard := none }
abbrev nwlA1 : Oper := { dst := some 6, op := Go.Op.load 3 (Go.Operand.tmp 5), type := 3, pos := "bounds.go:50", after := #[{ on := 0, ground := Go.Ground.data }], guard := none }
abbrev nwlA2 : Oper := { dst := some 7, op := Go.Op.fieldAddr 53 (Go.Operand.tmp 3) 0, type := 0, pos := "bounds.go:50", after := #[], guard := none }
abbrev nwlA3 : Oper := { dst := some 8, op := Go.Op.load 3 (Go.Operand.tmp 7), type := 3, pos := "bounds.go:50", after := #[{ on := 2, ground := Go.Ground.data }], guard := none }
abbrev nwlA4 : Oper := { dst := some 9, op := Go.Op.call { callee := Go.Callee.value (Go.Operand.func 88), args := #[Go.Operand.tmp 6, Go.Operand.tmp 8], argTypes := #[3, 3] }, type := 3, pos := "bounds.go:50", after := #[{ on := 1, ground := Go.Ground.data }, { on := 3, ground := Go.Ground.data }], guard := none }
abbrev nwlA5 : Oper := { dst := some 10, op := Go.Op.fieldAddr 53 (Go.Operand.tmp 3) 1, type := 0, pos := "bounds.go:50", after := #[], guard := none }
abbrev nwlA6 : Oper := { dst := some 11, op := Go.Op.load 3 (Go.Operand.tmp 10), type := 3, pos := "bounds.go:50", after := #[{ on := 5, ground := Go.Ground.data }], guard := none }
abbrev nwlA7 : Oper := { dst := some 12, op := Go.Op.fieldAddr 53 (Go.Operand.tmp 2) 1, type := 0, pos := "bounds.go:50", after := #[], guard := none }
abbrev nwlA8 : Oper := { dst := some 13, op := Go.Op.load 3 (Go.Operand.tmp 12), type := 3, pos := "bounds.go:50", after := #[{ on := 7, ground := Go.Ground.data }], guard := none }
abbrev nwlA9 : Oper := { dst := some 14, op := Go.Op.call { callee := Go.Callee.value (Go.Operand.func 88), args := #[Go.Operand.tmp 11, Go.Operand.tmp 13], argTypes := #[3, 3] }, type := 3, pos := "bounds.go:50", after := #[{ on := 6, ground := Go.Ground.data }, { on := 8, ground := Go.Ground.data }, { on := 4, ground := Go.Ground.chain }], guard := none }
abbrev nwlA10 : Oper := { dst := some 15, op := Go.Op.buildSlice 75 2 #[(0, Go.Operand.tmp 9), (1, Go.Operand.tmp 14)], type := 75, pos := "bounds.go:50", after := #[{ on := 4, ground := Go.Ground.data }, { on := 9, ground := Go.Ground.data }], guard := none }
abbrev nwlA11 : Oper := { dst := some 16, op := Go.Op.call { callee := Go.Callee.value (Go.Operand.func 107), args := #[Go.Operand.tmp 15], argTypes := #[75] }, type := 3, pos := "bounds.go:50", after := #[{ on := 10, ground := Go.Ground.data }, { on := 9, ground := Go.Ground.chain }], guard := none }
abbrev nwlA12 : Oper := { dst := some 4, op := Go.Op.assign (Go.Operand.tmp 16), type := 3, pos := "bounds.go:50", after := #[{ on := 11, ground := Go.Ground.data }, { on := 11, ground := Go.Ground.chain }, { on := 0, ground := Go.Ground.phase }, { on := 1, ground := Go.Ground.phase }, { on := 2, ground := Go.Ground.phase }, { on := 3, ground := Go.Ground.phase }, { on := 4, ground := Go.Ground.phase }, { on := 5, ground := Go.Ground.phase }, { on := 6, ground := Go.Ground.phase }, { on := 7, ground := Go.Ground.phase }, { on := 8, ground := Go.Ground.phase }, { on := 9, ground := Go.Ground.phase }, { on := 10, ground := Go.Ground.phase }, { on := 11, ground := Go.Ground.phase }], guard := none }
set_option maxHeartbeats 16000000 in
set_option maxRecDepth 100000 in
theorem clo_long (x y : R) (W : World) : Calls Tryz.prog 190 #[.agg #[.int .i64 x.1, .int .i64 x.2], .agg #[.int .i64 y.1, .int .i64 y.2]] W fun e w' => e = .returned (.int .i64 (cmpL x y)) ∧ ∃ q os', w' = grow (W.drewN q) os' := by
  obtain ⟨a, b⟩ := x
  obtain ⟨c, d⟩ := y
  have hcon := fun (p q : Int) (W' : World) => AnyG.cmp_Compare_int Tryz.cmpRn p q W'
  change ∀ p q W', Calls Tryz.prog 88 _ _ _ at hcon
  have E := Lib.hid (show cmpL (a, b) (c, d) = if Lib.compareInt a c = 0 then Lib.compareInt d b else Lib.compareInt a c from rfl)
  have C1 := Lib.hid (hcon a c)
  have C2 := Lib.hid (hcon d b)
  simp only
  generalize Lib.compareInt a c = p at *
  generalize Lib.compareInt d b = q at *
  generalize cmpL (a, b) (c, d) = r at *
  have OR0 := fun B w hx hy => orN_any B p q w hx hy
  rw [← E.out] at OR0
  have OR := Lib.hid OR0
  clear hcon OR0 E
  obtain ⟨v0, hV⟩ : ∃ x, x = (W.alloc (.cells #[.int .i64 a, .int .i64 b] 53)).alloc (.cells #[.int .i64 c, .int .i64 d] 53) := ⟨_, rfl⟩
  have ka : Kp W v0 := by rw [hV]; exact (Kp.alloc _ _).trans (Kp.alloc _ _)
  have gq0 : v0.heap[W.heap.size]? = some (.cells #[.int .i64 a, .int .i64 b] 53 (0, 0)) := by rw [hV]; exact heap_block (Kp.alloc _ _) (heap_at _ _ _ (by first | rfl | simp))
  have gq1 : v0.heap[W.heap.size + 1]? = some (.cells #[.int .i64 c, .int .i64 d] 53 (0, 0)) := by rw [hV]; exact heap_at _ _ _ (by first | rfl | simp)
  have KS := Lib.hid (fun w' (kq : Kp v0 w') => show w'.cell? ⟨W.heap.size, 0, none⟩ = some (.int .i64 a) ∧ w'.cell? ⟨W.heap.size, 1, none⟩ = some (.int .i64 b) ∧ w'.cell? ⟨W.heap.size + 1, 0, none⟩ = some (.int .i64 c) ∧ w'.cell? ⟨W.heap.size + 1, 1, none⟩ = some (.int .i64 d) ∧ Kp v0 w' from ⟨(row2 (heap_block kq gq0)).1, (row2 (heap_block kq gq0)).2, (row2 (heap_block kq gq1)).1, (row2 (heap_block kq gq1)).2, kq⟩)
  have GQ0 := Lib.hid gq0
  have GQ1 := Lib.hid gq1
  have HV := Lib.hid hV
  have KA := Lib.hid ka
  clear hV ka gq0 gq1
  have kkv0 : Kp v0 v0 := Kp.refl _
  have GV := Lib.hid (show Grw W v0 by rw [HV.out]; exact ((Grw.refl W).alloc _).alloc _)
  go_enter Tryz.func190, Tryz.ntmps190
  go_upto_region 1 with fail
  rw [← HV.out]
  clear HV
  refine wp_region_held_drew (S := fun w' => w'.cell? ⟨W.heap.size, 0, none⟩ = some (.int .i64 a) ∧ w'.cell? ⟨W.heap.size, 1, none⟩ = some (.int .i64 b) ∧ w'.cell? ⟨W.heap.size + 1, 0, none⟩ = some (.int .i64 c) ∧ w'.cell? ⟨W.heap.size + 1, 1, none⟩ = some (.int .i64 d) ∧ Kp v0 w') (by kernel_rfl) ?_ (fun hHeld0 => ?_)
  · (try dsimp only); exact KS.out _ (by first | with_reducible exact kkv0 | ((repeat (first | with_reducible refine Kp.trans ?_ (Kp.drew _) | with_reducible refine Kp.trans ?_ (Kp.alloc _ _))); with_reducible exact kkv0))
  refine tkW (v := ?_) 0 nwlA0 rfl (by kernel_rfl) (by kernel_rfl) (by kernel_rfl) (fun _ _ _ h => h) (by rfl) ?_ (by assumption) ?_
  rotate_left
  · intro w hSw; (try dsimp only at hSw); go_simp; (try with_reducible rfl)
  (try simp only [Act.put, nwlA0, List.setIfInBounds_toArray, List.set_cons_zero, List.set_cons_succ])
  refine tkW (v := ?_) 1 nwlA1 rfl (by kernel_rfl) (by kernel_rfl) (by kernel_rfl) (fun _ _ _ h => h) (by rfl) ?_ (by assumption) ?_
  rotate_left
  · intro w hSw; (try dsimp only at hSw); go_simp; (try with_reducible rfl)
  (try simp only [Act.put, nwlA1, List.setIfInBounds_toArray, List.set_cons_zero, List.set_cons_succ])
  refine tkW (v := ?_) 2 nwlA2 rfl (by kernel_rfl) (by kernel_rfl) (by kernel_rfl) (fun _ _ _ h => h) (by rfl) ?_ (by assumption) ?_
  rotate_left
  · intro w hSw; (try dsimp only at hSw); go_simp; (try with_reducible rfl)
  (try simp only [Act.put, nwlA2, List.setIfInBounds_toArray, List.set_cons_zero, List.set_cons_succ])
  refine tkW (v := ?_) 3 nwlA3 rfl (by kernel_rfl) (by kernel_rfl) (by kernel_rfl) (fun _ _ _ h => h) (by rfl) ?_ (by assumption) ?_
  rotate_left
  · intro w hSw; (try dsimp only at hSw); go_simp; (try with_reducible rfl)
  (try simp only [Act.put, nwlA3, List.setIfInBounds_toArray, List.set_cons_zero, List.set_cons_succ])
  refine tkW (v := ?_) 5 nwlA5 rfl (by kernel_rfl) (by kernel_rfl) (by kernel_rfl) (fun _ _ _ h => h) (by rfl) ?_ (by assumption) ?_
  rotate_left
  · intro w hSw; (try dsimp only at hSw); go_simp; (try with_reducible rfl)
  (try simp only [Act.put, nwlA5, List.setIfInBounds_toArray, List.set_cons_zero, List.set_cons_succ])
  refine tkW (v := ?_) 6 nwlA6 rfl (by kernel_rfl) (by kernel_rfl) (by kernel_rfl) (fun _ _ _ h => h) (by rfl) ?_ (by assumption) ?_
  rotate_left
  · intro w hSw; (try dsimp only at hSw); go_simp; (try with_reducible rfl)
  (try simp only [Act.put, nwlA6, List.setIfInBounds_toArray, List.set_cons_zero, List.set_cons_succ])
  refine tkW (v := ?_) 7 nwlA7 rfl (by kernel_rfl) (by kernel_rfl) (by kernel_rfl) (fun _ _ _ h => h) (by rfl) ?_ (by assumption) ?_
  rotate_left
  · intro w hSw; (try dsimp only at hSw); go_simp; (try with_reducible rfl)
  (try simp only [Act.put, nwlA7, List.setIfInBounds_toArray, List.set_cons_zero, List.set_cons_succ])
  refine tkW (v := ?_) 8 nwlA8 rfl (by kernel_rfl) (by kernel_rfl) (by kernel_rfl) (fun _ _ _ h => h) (by rfl) ?_ (by assumption) ?_
  rotate_left
  · intro w hSw; (try dsimp only at hSw); go_simp; (try with_reducible rfl)
  (try simp only [Act.put, nwlA8, List.setIfInBounds_toArray, List.set_cons_zero, List.set_cons_succ])
  refine tkE 4 nwlA4 rfl (by kernel_rfl) (fun K hK => ?_)
  go_simp
  (refine (C1.out _).mono ?_; rintro e w' ⟨rfl, rfl⟩)
  (try go_wp2_with fail)
  refine hK.out _ _ ?_ (fun hHeld1 => ?_)
  · (try dsimp only); exact KS.out _ (by first | with_reducible exact kkv0 | ((repeat (first | with_reducible refine Kp.trans ?_ (Kp.drew _) | with_reducible refine Kp.trans ?_ (Kp.alloc _ _))); with_reducible exact kkv0))
  clear hK K hHeld0
  (try simp only [Act.put, nwlA4, List.setIfInBounds_toArray, List.set_cons_zero, List.set_cons_succ])
  refine tkE 9 nwlA9 rfl (by kernel_rfl) (fun K hK => ?_)
  go_simp
  (refine (C2.out _).mono ?_; rintro e w' ⟨rfl, rfl⟩)
  (try go_wp2_with fail)
  refine hK.out _ _ ?_ (fun hHeld2 => ?_)
  · (try dsimp only); exact KS.out _ (by first | with_reducible exact kkv0 | ((repeat (first | with_reducible refine Kp.trans ?_ (Kp.drew _) | with_reducible refine Kp.trans ?_ (Kp.alloc _ _))); with_reducible exact kkv0))
  clear hK K hHeld1
  (try simp only [Act.put, nwlA9, List.setIfInBounds_toArray, List.set_cons_zero, List.set_cons_succ])
  refine tkE 10 nwlA10 rfl (by kernel_rfl) (fun K hK => ?_)
  go_simp
  skip
  (try go_wp2_with fail)
  refine hK.out _ _ ?_ (fun hHeld3 => ?_)
  · (try dsimp only); exact KS.out _ (by first | with_reducible exact kkv0 | ((repeat (first | with_reducible refine Kp.trans ?_ (Kp.drew _) | with_reducible refine Kp.trans ?_ (Kp.alloc _ _))); with_reducible exact kkv0))
  clear hK K hHeld2
  (try simp only [Act.put, nwlA10, List.setIfInBounds_toArray, List.set_cons_zero, List.set_cons_succ])
  refine tkE 11 nwlA11 rfl (by kernel_rfl) (fun K hK => ?_)
  go_simp
  (refine (OR.out _ _ (by simp) (by simp)).mono ?_; rintro e w' ⟨rfl, rfl⟩)
  (try go_wp2_with fail)
  refine hK.out _ _ ?_ (fun hHeld4 => ?_)
  · (try dsimp only); exact KS.out _ (by first | with_reducible exact kkv0 | ((repeat (first | with_reducible refine Kp.trans ?_ (Kp.drew _) | with_reducible refine Kp.trans ?_ (Kp.alloc _ _))); with_reducible exact kkv0))
  clear hK K hHeld3
  (try simp only [Act.put, nwlA11, List.setIfInBounds_toArray, List.set_cons_zero, List.set_cons_succ])
  refine tkW (v := ?_) 12 nwlA12 rfl (by kernel_rfl) (by kernel_rfl) (by kernel_rfl) (fun _ _ _ h => h) (by rfl) ?_ (by assumption) ?_
  rotate_left
  · intro w hSw; (try dsimp only at hSw); go_simp; (try with_reducible rfl)
  (try simp only [Act.put, nwlA12, List.setIfInBounds_toArray, List.set_cons_zero, List.set_cons_succ])
  refine wpAnyH_done (by kernel_rfl) ?_ _
  go_wp2
  go_ret
  refine ⟨rfl, ?_⟩
  exact (show Grw W _ from by (repeat (first | refine Grw.drew ?_ | refine Grw.alloc ?_ _ | refine Grw.drewN ?_ _)); exact GV.out)
theorem own_sortedN {w : World} {base b cap n : Nat} {e : TypeId} {L : List R} (h : w.ownsRow base e 2 (.slice (some ⟨b, 0, none⟩) n cap) n (cellsR L)) {d : Array R} (hs : d.size = n) (m : Nat) (os : Array Obj) :
    (sortWorldK encR 2 w b 0 m d os).ownsRow base e 2 (.slice (some ⟨b, 0, none⟩) n cap) n (cellsR d.toList) ∧ w.grownBy (sortWorldK encR 2 w b 0 m d os) (some b) := by
  have hb : b < w.heap.size := (h.lt b rfl).2
  rcases h.2 with ⟨h', _⟩ | ⟨g', cap', cur, h', h1, h2, h3, h4, h5, h6⟩
  · cases h'
  · simp only [Value.slice.injEq, Option.some.injEq, Addr.mk.injEq, and_true, true_and] at h'
    obtain ⟨rfl, rfl⟩ := h'
    refine ⟨⟨by rw [cellsR_length, Array.length_toList, hs], .inr ⟨b, cap, putCells id 0 (flatK encR 2 d) cur, rfl, h1, ?_, h3, h4, ?_, ?_⟩⟩, ⟨rfl, rfl, rfl, ?_, fun k hk hne => ?_⟩⟩
    · simp only [sortWorldK, grow, putRowK, putRow, mapBlock, Sort.ahead]
      rw [Array.getElem?_append_left (by simpa using hb), Array.getElem?_modify, if_pos rfl, h2]
      rfl
    · simp [putCells, h5]
    · apply List.ext_getElem?
      intro j
      by_cases hj : j < n * 2
      · have hc : j < cur.size := by rw [h5]; omega
        rw [List.getElem?_take_of_lt hj, cells_idx _ j (by simpa [hs] using hj)]
        have e1 : (flatK encR 2 d)[j]! = (encR d[j / 2]!)[j % 2]! := get_flatK _ _ _ _ (by rw [hs]; exact hj)
        have hj2 : j / 2 < d.size := by omega
        have e2 : at_ d.toList (j / 2) = d[j / 2]! := by unfold at_; simp [List.getD, hj2]
        have e3 : (putCells id 0 (flatK encR 2 d) cur)[j]? = some ((flatK encR 2 d)[j]!) := by
          unfold putCells
          rw [Array.getElem?_mapIdx, Array.getElem?_eq_getElem hc]
          simp only [Option.map_some, Nat.zero_le, Nat.zero_add, size_flatK, hs, true_and, Nat.sub_zero, id_eq]
          rw [if_pos hj]
        rw [Array.getElem?_toList, e3, e1, e2]
        have : j % 2 = 0 ∨ j % 2 = 1 := by omega
        rcases this with q | q <;> rw [q] <;> rfl
      · rw [List.getElem?_eq_none (by rw [List.length_take]; omega), List.getElem?_eq_none (by rw [cellsR_length, Array.length_toList, hs]; omega)]
    · simp [sortWorldK, grow, putRowK, putRow, mapBlock, Sort.ahead]
    · simp only [sortWorldK, grow, putRowK, putRow, mapBlock, Sort.ahead]
      have hne' : b ≠ k := fun e => hne (by rw [e])
      rw [Array.getElem?_append_left (by simpa using hk), Array.getElem?_modify, if_neg hne']
set_option maxHeartbeats 1000000 in
theorem nsort_any {base b cap : Nat} {e : TypeId} (L : List R) (w : World) (h : w.ownsRow base e 2 (.slice (some ⟨b, 0, none⟩) L.length cap) L.length (cellsR L)) (hn : L.length ≤ 1000000) :
    Calls Tryz.prog 156 #[.slice (some ⟨b, 0, none⟩) L.length cap, .func (.func 190) #[] #[]] w fun ex w' => ex = .returned (.tuple #[]) ∧ ∃ L' : List R, L'.length = L.length ∧ (∀ p, p ∈ L' ↔ p ∈ L) ∧ L'.Pairwise leLo ∧ w'.ownsRow base e 2 (.slice (some ⟨b, 0, none⟩) L.length cap) L.length (cellsR L') ∧ w.grownBy w' (some b) := by
  have eg : ∀ args w, (callFunc 190 args).run Tryz.prog w = .ok (.enter 190 args) w := enters_of Tryz.func190 (by kernel_rfl) rfl
  have hb : b < w.heap.size := (h.lt b rfl).2
  have hH : HoldsK encR 2 w b 0 L.toArray := holds_row h
  have hcon := AnyQ.slices_SortFunc Tryz.sortRn 2 Tryz.isAgg53 Tryz.sizeOf53 encR lenR oneR cmpL swoL 190 #[] b 0 cap L.toArray w eg (fun _ _ _ _ x y => clo_long x y _) hH hb (by simp; omega)
  change Calls Tryz.prog 156 _ _ _ at hcon
  refine hcon.mono ?_
  rintro ex w' ⟨rfl, d', n, os, hp, hs, rfl⟩
  have sz : d'.size = L.length := by rw [hp.1]; simp
  obtain ⟨o1, g1⟩ := own_sortedN h sz n os
  have pm : d'.toList.Perm L := by
    have := hp.2.2
    rw [Array.extract_eq_self_of_le (by simp [sz]), Array.extract_eq_self_of_le (by simp)] at this
    simpa using this
  refine ⟨rfl, d'.toList, by simpa using sz, fun p => pm.mem_iff, ?_, o1, g1⟩
  rw [List.pairwise_iff_getElem]
  intro i j hi hj hij
  have hi2 : i < d'.size := by simpa using hi
  have hj2 : j < d'.size := by simpa using hj
  have := hs i j (Nat.zero_le _) hij (by simp; omega)
  rw [ltL, decide_eq_false_iff_not, getElem!_pos d' i hi2, getElem!_pos d' j hj2] at this
  simp only [Array.getElem_toList]
  unfold leLo
  omega
theorem nsort_nil (w : World) : Calls Tryz.prog 156 #[.slice none 0 0, .func (.func 190) #[] #[]] w fun e w' => e = .returned (.tuple #[]) ∧ w' = w := by
  have hcon := AnyF.slices_SortFunc_none Tryz.sortRn none 0 (.func (.func 190) #[] #[]) w
  change Calls Tryz.prog 156 _ _ _ at hcon
  exact hcon
/-- either way -/
theorem nsort_row {base : Nat} {e : TypeId} {v : Value} (L : List R) (w : World) (h : w.ownsRow base e 2 v L.length (cellsR L)) (hn : L.length ≤ 1000000) :
    Calls Tryz.prog 156 #[v, .func (.func 190) #[] #[]] w fun ex w' => ex = .returned (.tuple #[]) ∧ ∃ L' : List R, L'.length = L.length ∧ (∀ p, p ∈ L' ↔ p ∈ L) ∧ L'.Pairwise leLo ∧ w'.ownsRow base e 2 v L.length (cellsR L') ∧ w.grownBy w' v.ownBlock := by
  rcases h.2 with ⟨rfl, h0⟩ | ⟨g, cap, cur, rfl, _⟩
  · have : L = [] := List.length_eq_zero_iff.1 h0
    subst this
    refine (nsort_nil w).mono ?_
    rintro ex w' ⟨rfl, rfl⟩
    exact ⟨rfl, [], rfl, fun p => Iff.rfl, List.Pairwise.nil, h, ⟨rfl, rfl, rfl, Nat.le_refl _, fun _ _ _ => rfl⟩⟩
  · exact nsort_any L w h hn
end Go.Proofs.YtjdnejglapnbbaaGreatDoor
