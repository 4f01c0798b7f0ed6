/-
  Contract of narrow.longest.
-/
import Derived.Test.YtjdnejglapnbbaaGreatDoorNwD
namespace Go.Proofs.YtjdnejglapnbbaaGreatDoor
open Go.RowKit
set_option linter.unusedVariables false
set_option linter.unusedSimpArgs false
theorem grown_kp {w w1 w' : World} {row : Option Nat} (g : w.grownBy w1 row) (k : Kp w1 w') : w.grownBy w' row :=
  ⟨k.os.trans g.os, k.tape.trans g.tape, k.output.trans g.output, Nat.le_trans g.size k.size, fun j hj hn => (k.block j (Nat.lt_of_lt_of_le hj g.size)).trans (g.block j hj hn)⟩
theorem long_next {L : List R} {k : Nat} (h : k < L.length) : longR (L.take (k + 1)) = lgS (longR (L.take k)) (at_ L k) := by rw [take_at L k h, long_snoc]
abbrev nwmA0 : Oper := { dst := some 14, op := Go.Op.move (Go.Operand.tmp 3), type := 38, pos := "bounds.go:53", after := #[], guard := none }
abbrev nwmA1 : Oper := { dst := some 15, op := Go.Op.call { callee := Go.Callee.builtin Go.Builtin.len, args := #[Go.Operand.tmp 14], argTypes := #[38] }, type := 3, pos := "bounds.go:53", after := #[{ on := 0, ground := Go.Ground.data }], guard := none }
abbrev nwmA2 : Oper := { dst := some 16, op := Go.Op.binOp Go.BinOp.eql 3 (Go.Operand.tmp 15) (Go.Operand.const (Go.Value.int Go.IntKind.i64 0)) 3, type := 4, pos := "bounds.go:53", after := #[{ on := 1, ground := Go.Ground.data }], guard := none }
abbrev nwmA3 : Oper := { dst := some 17, op := Go.Op.move (Go.Operand.tmp 16), type := 4, pos := "bounds.go:53", after := #[{ on := 2, ground := Go.Ground.data }], guard := none }
abbrev nwmA4 : Oper := { dst := some 18, op := Go.Op.fieldAddr 53 (Go.Operand.tmp 5) 1, type := 0, pos := "bounds.go:53", after := #[{ on := 3, ground := Go.Ground.guard }], guard := some (3, false) }
abbrev nwmA5 : Oper := { dst := some 19, op := Go.Op.load 3 (Go.Operand.tmp 18), type := 3, pos := "bounds.go:53", after := #[{ on := 4, ground := Go.Ground.data }, { on := 3, ground := Go.Ground.guard }], guard := some (3, false) }
abbrev nwmA6 : Oper := { dst := some 20, op := Go.Op.move (Go.Operand.tmp 3), type := 38, pos := "bounds.go:53", after := #[{ on := 3, ground := Go.Ground.guard }], guard := some (3, false) }
abbrev nwmA7 : Oper := { dst := some 21, op := Go.Op.move (Go.Operand.tmp 3), type := 38, pos := "bounds.go:53", after := #[{ on := 3, ground := Go.Ground.guard }], guard := some (3, false) }
abbrev nwmA8 : Oper := { dst := some 22, op := Go.Op.call { callee := Go.Callee.builtin Go.Builtin.len, args := #[Go.Operand.tmp 21], argTypes := #[38] }, type := 3, pos := "bounds.go:53", after := #[{ on := 7, ground := Go.Ground.data }, { on := 3, ground := Go.Ground.guard }], guard := some (3, false) }
abbrev nwmA9 : Oper := { dst := some 23, op := Go.Op.binOp Go.BinOp.sub 3 (Go.Operand.tmp 22) (Go.Operand.const (Go.Value.int Go.IntKind.i64 1)) 3, type := 3, pos := "bounds.go:53", after := #[{ on := 8, ground := Go.Ground.data }, { on := 3, ground := Go.Ground.guard }], guard := some (3, false) }
abbrev nwmA10 : Oper := { dst := some 24, op := Go.Op.indexAddr 38 (Go.Operand.tmp 20) (Go.Operand.tmp 23), type := 0, pos := "bounds.go:53", after := #[{ on := 6, ground := Go.Ground.data }, { on := 9, ground := Go.Ground.data }, { on := 3, ground := Go.Ground.guard }], guard := some (3, false) }
abbrev nwmA11 : Oper := { dst := some 25, op := Go.Op.fieldAddr 53 (Go.Operand.tmp 24) 1, type := 0, pos := "bounds.go:53", after := #[{ on := 10, ground := Go.Ground.data }, { on := 3, ground := Go.Ground.guard }], guard := some (3, false) }
abbrev nwmA12 : Oper := { dst := some 26, op := Go.Op.load 3 (Go.Operand.tmp 25), type := 3, pos := "bounds.go:53", after := #[{ on := 11, ground := Go.Ground.data }, { on := 3, ground := Go.Ground.guard }], guard := some (3, false) }
abbrev nwmA13 : Oper := { dst := some 27, op := Go.Op.binOp Go.BinOp.gtr 3 (Go.Operand.tmp 19) (Go.Operand.tmp 26) 3, type := 4, pos := "bounds.go:53", after := #[{ on := 5, ground := Go.Ground.data }, { on := 12, ground := Go.Ground.data }, { on := 3, ground := Go.Ground.guard }], guard := some (3, false) }
abbrev nwmA14 : Oper := { dst := some 28, op := Go.Op.pick (Go.Operand.tmp 17) (Go.Operand.const (Go.Value.bool true)) (Go.Operand.tmp 27), type := 4, pos := "bounds.go:53", after := #[{ on := 3, ground := Go.Ground.data }, { on := 13, ground := Go.Ground.data }], guard := none }
set_option maxHeartbeats 16000000 in
set_option maxRecDepth 100000 in
theorem nwLong_any {base : Nat} (v : Value) (L : List R) (w : World) (h : OwnR w base v L) (hn : L.length ≤ 1000000) :
    Calls Tryz.prog 119 #[v] w fun e w' => ∃ v' L' K, e = .returned v' ∧ (∀ p, p ∈ L' ↔ p ∈ L) ∧ L'.length = L.length ∧ OwnR w' base v L' ∧ KeptOk L K ∧ OwnR w' w.heap.size v' K ∧ w.grownBy w' v.ownBlock := by
  obtain ⟨i0, hi, hz0, hz1, hz2⟩ := info_parts infoR
  have SO := Lib.hid (nsort_row L w h hn)
  unfold OwnR at h
  obtain ⟨ad, ca, rfl⟩ := own_slice h
  clear h
  go_enter Tryz.func119, Tryz.ntmps119
  go_wp2_with fail
  refine (SO.out).mono ?_
  rintro e w1 ⟨rfl, L', h1, h2, h3, h4, h5⟩
  have h4' : OwnR w1 base (.slice ad L.length ca) L' := by unfold OwnR; rw [h1]; exact h4
  have RV := Lib.hid (runsAt_own h4')
  have RET := Lib.hid (fun v' w' (hK : OwnR w' w1.heap.size v' (longR L')) (k : Kp w1 w') => show ∃ K, KeptOk L K ∧ OwnR w' base (.slice ad L.length ca) L' ∧ OwnR w' w.heap.size v' K ∧ w.grownBy w' (Value.slice ad L.length ca).ownBlock from
    ⟨longR L', (long_ok L' h3).1.perm h2 h1, own_kp h4' k, own_mono hK h5.size, grown_kp h5 k⟩)
  have H1 := Lib.hid h1
  have H2 := Lib.hid h2
  have hn' : L'.length ≤ 1000000 := by omega
  rw [← h1]
  clear SO h2 h3 h4 h4' h5 h1 hn
  go_wp2_with fail
  go_loopw [3, 10] (fun v i wr => ∃ k : Nat, k ≤ L'.length ∧ i = .int .i64 k ∧ Hid (OwnR wr w1.heap.size v (longR (L'.take k))) ∧ Hid (Kp w1 wr)) (fun _ i _ => L'.length - (intOf i).toNat)
  case atStart => exact ⟨0, Nat.zero_le _, rfl, Lib.hid (by rw [List.take_zero]; exact World.ownsRow_nil _ _ _ _), Lib.hid (Kp.refl _)⟩
  case round =>
    obtain ⟨k, hk, rfl, O5, J⟩ := hrel
    have o5 := O5.out
    unfold OwnR at o5
    obtain ⟨a5, l5, rfl⟩ := own_slice o5
    by_cases hlt : k < L'.length
    · have q2 : decide ((k : Int) < (L'.length : Int)) = true := decide_eq_true (by omega)
      have q3 : decide (k < L'.length) = true := decide_eq_true hlt
      have RW := RV.out.kp J.out
      rcases RW with ⟨_, _, _, e⟩ | ⟨b1, off1, cap1, ev, hc1, hm1, hx1⟩
      · rw [e] at hlt; simp at hlt
      obtain ⟨r1, r2⟩ := hx1 k hlt
      rw [← H1.out] at ev
      cases ev
      have n5b := long_len (L'.take k)
      have n5c : (L'.take k).length ≤ k := List.length_take_le _ _
      obtain ⟨lo, hi', elo⟩ : ∃ x y, at_ L' k = (x, y) := ⟨_, _, rfl⟩
      rw [elo] at r1 r2
      simp only at r1 r2
      have z1 : (0 : Int) ≤ (k : Int) := by omega
      have z2 : (k : Int) < L'.length := by omega
      have kkVV : Kp wr (wr.alloc (.cells #[.int .i64 lo, .int .i64 hi'] 53)) := Kp.alloc _ _
      obtain ⟨X, eX⟩ : ∃ X, longR (L'.take k) = X := ⟨_, rfl⟩
      rw [eX] at o5 n5b ⊢
      obtain ⟨n5, hn5⟩ : ∃ x, X.length = x := ⟨_, rfl⟩
      rw [hn5] at o5 n5b ⊢
      have HN5 := Lib.hid hn5
      clear hx1 hc1 RET
      rcases snoc_cases X with hX | ⟨bb, q, hX⟩
      · have hz : n5 = 0 := by rw [← hn5, hX]; rfl
        have g1 : ((n5 : Int) == 0) = true := by rw [hz]; rfl
        have NX := Lib.hid (show longR (L'.take (k + 1)) = X ++ [(lo, hi')] by rw [long_next hlt, elo, eX, hX]; rfl)
        clear hX eX elo hn5 hz
        obtain ⟨V, hVv⟩ : ∃ x, x = wr.alloc (.cells #[.int .i64 lo, .int .i64 hi'] 53) := ⟨_, rfl⟩
        have kav : Kp wr V := by rw [hVv]; exact Kp.alloc _ _
        have gqv0 : V.heap[wr.heap.size]? = some (.cells #[.int .i64 lo, .int .i64 hi'] 53 (0, 0)) := by rw [hVv]; exact heap_at _ _ _ (by first | rfl | simp)
        rw [← hVv] at kkVV
        have KSv := Lib.hid (fun w' (kq : Kp V w') => show w'.cell? ⟨wr.heap.size, 0, none⟩ = some (.int .i64 lo) ∧ w'.cell? ⟨wr.heap.size, 1, none⟩ = some (.int .i64 hi') ∧ Kp V w' from ⟨(row2 (heap_block kq gqv0)).1, (row2 (heap_block kq gqv0)).2, kq⟩)
        have GQv0 := Lib.hid gqv0
        have HVv := Lib.hid hVv
        have KV := Lib.hid kav
        clear hVv kav gqv0
        have kkV : Kp V V := Kp.refl _
        have OW := Lib.hid (own_kp o5 KV.out)
        have KWV := Lib.hid (J.out.trans KV.out)
        have bs := Below.size KWV.out
        clear O5 o5
        go_upto_region 6 with fail
        rw [← HVv.out]
        clear HVv r1 r2
        refine wp_region_held_drew (S := fun w' => w'.cell? ⟨wr.heap.size, 0, none⟩ = some (.int .i64 lo) ∧ w'.cell? ⟨wr.heap.size, 1, none⟩ = some (.int .i64 hi') ∧ Kp V w') (by kernel_rfl) ?_ (fun hHeld0 => ?_)
        · (try dsimp only); exact KSv.out _ (by first | with_reducible exact kkV | ((repeat (first | with_reducible refine Kp.trans ?_ (Kp.drew _) | with_reducible refine Kp.trans ?_ (Kp.alloc _ _))); with_reducible exact kkV))
        refine tkW (v := ?_) 0 nwmA0 rfl (by kernel_rfl) (by kernel_rfl) (by kernel_rfl) (fun _ _ _ h => h) (by rfl) ?_ (by assumption) ?_
        rotate_left
        · intro w hSw; (try dsimp only at hSw); go_simp; (try with_reducible rfl)
        (try simp only [Act.put, nwmA0, List.setIfInBounds_toArray, List.set_cons_zero, List.set_cons_succ])
        refine tkW (v := ?_) 1 nwmA1 rfl (by kernel_rfl) (by kernel_rfl) (by kernel_rfl) (fun _ _ _ h => h) (by rfl) ?_ (by assumption) ?_
        rotate_left
        · intro w hSw; (try dsimp only at hSw); go_simp; (try with_reducible rfl)
        (try simp only [Act.put, nwmA1, List.setIfInBounds_toArray, List.set_cons_zero, List.set_cons_succ])
        refine tkW (v := ?_) 2 nwmA2 rfl (by kernel_rfl) (by kernel_rfl) (by kernel_rfl) (fun _ _ _ h => h) (by rfl) ?_ (by assumption) ?_
        rotate_left
        · intro w hSw; (try dsimp only at hSw); go_simp; (try with_reducible rfl)
        (try simp only [Act.put, nwmA2, List.setIfInBounds_toArray, List.set_cons_zero, List.set_cons_succ])
        refine tkW (v := ?_) 3 nwmA3 rfl (by kernel_rfl) (by kernel_rfl) (by kernel_rfl) (fun _ _ _ h => h) (by rfl) ?_ (by assumption) ?_
        rotate_left
        · intro w hSw; (try dsimp only at hSw); go_simp; (try with_reducible rfl)
        (try simp only [Act.put, nwmA3, List.setIfInBounds_toArray, List.set_cons_zero, List.set_cons_succ])
        refine tkU 4 nwmA4 rfl (by kernel_rfl) (by kernel_rfl) (by kernel_rfl) (fun _ _ _ h => h) (by rfl) (by assumption) ?_
        (try simp only [Act.put, nwmA4, List.setIfInBounds_toArray, List.set_cons_zero, List.set_cons_succ])
        refine tkU 5 nwmA5 rfl (by kernel_rfl) (by kernel_rfl) (by kernel_rfl) (fun _ _ _ h => h) (by rfl) (by assumption) ?_
        (try simp only [Act.put, nwmA5, List.setIfInBounds_toArray, List.set_cons_zero, List.set_cons_succ])
        refine tkU 6 nwmA6 rfl (by kernel_rfl) (by kernel_rfl) (by kernel_rfl) (fun _ _ _ h => h) (by rfl) (by assumption) ?_
        (try simp only [Act.put, nwmA6, List.setIfInBounds_toArray, List.set_cons_zero, List.set_cons_succ])
        refine tkU 7 nwmA7 rfl (by kernel_rfl) (by kernel_rfl) (by kernel_rfl) (fun _ _ _ h => h) (by rfl) (by assumption) ?_
        (try simp only [Act.put, nwmA7, List.setIfInBounds_toArray, List.set_cons_zero, List.set_cons_succ])
        refine tkU 8 nwmA8 rfl (by kernel_rfl) (by kernel_rfl) (by kernel_rfl) (fun _ _ _ h => h) (by rfl) (by assumption) ?_
        (try simp only [Act.put, nwmA8, List.setIfInBounds_toArray, List.set_cons_zero, List.set_cons_succ])
        refine tkU 9 nwmA9 rfl (by kernel_rfl) (by kernel_rfl) (by kernel_rfl) (fun _ _ _ h => h) (by rfl) (by assumption) ?_
        (try simp only [Act.put, nwmA9, List.setIfInBounds_toArray, List.set_cons_zero, List.set_cons_succ])
        refine tkU 10 nwmA10 rfl (by kernel_rfl) (by kernel_rfl) (by kernel_rfl) (fun _ _ _ h => h) (by rfl) (by assumption) ?_
        (try simp only [Act.put, nwmA10, List.setIfInBounds_toArray, List.set_cons_zero, List.set_cons_succ])
        refine tkU 11 nwmA11 rfl (by kernel_rfl) (by kernel_rfl) (by kernel_rfl) (fun _ _ _ h => h) (by rfl) (by assumption) ?_
        (try simp only [Act.put, nwmA11, List.setIfInBounds_toArray, List.set_cons_zero, List.set_cons_succ])
        refine tkU 12 nwmA12 rfl (by kernel_rfl) (by kernel_rfl) (by kernel_rfl) (fun _ _ _ h => h) (by rfl) (by assumption) ?_
        (try simp only [Act.put, nwmA12, List.setIfInBounds_toArray, List.set_cons_zero, List.set_cons_succ])
        refine tkU 13 nwmA13 rfl (by kernel_rfl) (by kernel_rfl) (by kernel_rfl) (fun _ _ _ h => h) (by rfl) (by assumption) ?_
        (try simp only [Act.put, nwmA13, List.setIfInBounds_toArray, List.set_cons_zero, List.set_cons_succ])
        refine tkW (v := ?_) 14 nwmA14 rfl (by kernel_rfl) (by kernel_rfl) (by kernel_rfl) (fun _ _ _ h => h) (by rfl) ?_ (by assumption) ?_
        rotate_left
        · intro w hSw; (try dsimp only at hSw); go_simp; (try with_reducible rfl)
        (try simp only [Act.put, nwmA14, List.setIfInBounds_toArray, List.set_cons_zero, List.set_cons_succ])
        refine wpAnyH_done (by kernel_rfl) ?_ _
        obtain ⟨xv0, xv1, _⟩ := KSv.out _ (Kp.refl V)
        go_wp2_with (at_builtin; refine wpList_app rfl (.tmp 29) (.tmp 31) 38 rfl w1.heap.size 53 i0 (.agg #[.int .i64 0, .int .i64 0]) 2 16 Tryz.underlying38 hi hz0 hz1 hz2 rfl (by decide) _ n5 (cellsR X) rfl (own_kp OW.out (by first | with_reducible exact (Kp.refl V) | ((repeat (first | with_reducible refine Kp.trans ?_ (Kp.drew _) | with_reducible refine Kp.trans ?_ (Kp.alloc _ _))); with_reducible exact (Kp.refl V)))) _ 1 [.int .i64 lo, .int .i64 hi'] rfl (one_src _ _ _ _) (by simp) (by intro u hu; simp at hu; rcases hu with rfl | rfl <;> rfl) (by unfold maxLen; omega) (by omega) (Nat.le_trans bs (Below.size (show Kp V _ from (by first | with_reducible exact (Kp.refl V) | ((repeat (first | with_reducible refine Kp.trans ?_ (Kp.drew _) | with_reducible refine Kp.trans ?_ (Kp.alloc _ _))); with_reducible exact (Kp.refl V)))))) ?_; intro v7 w7 hown hgrow hat)
        go_roundw
        case rel => exact ⟨k + 1, by omega, by go_num, Lib.hid (by rw [NX.out]; have h := hown; rw [← HN5.out] at h; exact own_snoc h), Lib.hid (Kp.grown (show Kp w1 _ from KWV.out.trans (by first | with_reducible exact (Kp.refl V) | ((repeat (first | with_reducible refine Kp.trans ?_ (Kp.drew _) | with_reducible refine Kp.trans ?_ (Kp.alloc _ _))); with_reducible exact (Kp.refl V)))) hgrow (fun j hj => (OW.out.lt j hj).1))⟩
        case measure => simp [intOf]; omega
      · have hz : n5 = bb.length + 1 := by rw [← hn5, hX]; simp
        have g1 : ((n5 : Int) == 0) = false := by rw [beq_eq_false_iff_ne]; omega
        obtain ⟨g, cp5, e5, gb, gl⟩ := World.ownsRow.form o5 (by omega)
        cases e5
        have cq : wr.cell? ⟨g, bb.length * 2 + 1, none⟩ = some (.int .i64 q.2) := by
          rw [o5.cellAt _ (by omega), hX, cellsR_append, List.getElem?_append_right (by rw [cellsR_length]; omega), cellsR_length]
          simp [cellsR]
        have nx := long_next hlt
        rw [elo, eX] at nx
        unfold lgS at nx
        rw [if_neg (by rw [hX]; simp), show (X.getLastD (0, 0)) = q by rw [hX]; simp] at nx
        obtain ⟨m5, em⟩ : ∃ x, bb.length = x := ⟨_, rfl⟩
        rw [em] at cq hz
        obtain ⟨y1, y2⟩ := q
        simp only at cq nx
        have ws : IntKind.i64.wrap ((n5 : Int) - 1) = (m5 : Int) := by rw [IntKind.wrap_i64]; omega
        have z3 : (0 : Int) ≤ (m5 : Int) := by omega
        have z4 : (m5 : Int) < (n5 : Int) := by omega
        by_cases c : y2 < hi'
        · rw [if_pos c] at nx
          have NX := Lib.hid nx
          have u1 : decide (hi' > y2) = true := decide_eq_true c
          have u2 : decide (y2 < hi') = true := decide_eq_true c
          clear hX eX elo hn5 nx c em hz
          obtain ⟨V, hVv⟩ : ∃ x, x = wr.alloc (.cells #[.int .i64 lo, .int .i64 hi'] 53) := ⟨_, rfl⟩
          have kav : Kp wr V := by rw [hVv]; exact Kp.alloc _ _
          have gqv0 : V.heap[wr.heap.size]? = some (.cells #[.int .i64 lo, .int .i64 hi'] 53 (0, 0)) := by rw [hVv]; exact heap_at _ _ _ (by first | rfl | simp)
          rw [← hVv] at kkVV
          have KSv := Lib.hid (fun w' (kq : Kp V w') => show w'.cell? ⟨wr.heap.size, 0, none⟩ = some (.int .i64 lo) ∧ w'.cell? ⟨wr.heap.size, 1, none⟩ = some (.int .i64 hi') ∧ w'.cell? ⟨g, m5 * 2 + 1, none⟩ = some (.int .i64 y2) ∧ Kp V w' from ⟨(row2 (heap_block kq gqv0)).1, (row2 (heap_block kq gqv0)).2, cell_up kq (cell_up kkVV cq), kq⟩)
          have GQv0 := Lib.hid gqv0
          have HVv := Lib.hid hVv
          have KV := Lib.hid kav
          clear hVv kav gqv0
          have kkV : Kp V V := Kp.refl _
          have OW := Lib.hid (own_kp o5 KV.out)
          have KWV := Lib.hid (J.out.trans KV.out)
          have bs := Below.size KWV.out
          clear O5 o5
          go_upto_region 6 with fail
          rw [← HVv.out]
          clear HVv r1 r2 cq
          refine wp_region_held_drew (S := fun w' => w'.cell? ⟨wr.heap.size, 0, none⟩ = some (.int .i64 lo) ∧ w'.cell? ⟨wr.heap.size, 1, none⟩ = some (.int .i64 hi') ∧ w'.cell? ⟨g, m5 * 2 + 1, none⟩ = some (.int .i64 y2) ∧ Kp V w') (by kernel_rfl) ?_ (fun hHeld0 => ?_)
          · (try dsimp only); exact KSv.out _ (by first | with_reducible exact kkV | ((repeat (first | with_reducible refine Kp.trans ?_ (Kp.drew _) | with_reducible refine Kp.trans ?_ (Kp.alloc _ _))); with_reducible exact kkV))
          refine tkW (v := ?_) 0 nwmA0 rfl (by kernel_rfl) (by kernel_rfl) (by kernel_rfl) (fun _ _ _ h => h) (by rfl) ?_ (by assumption) ?_
          rotate_left
          · intro w hSw; (try dsimp only at hSw); go_simp; (try with_reducible rfl)
          (try simp only [Act.put, nwmA0, List.setIfInBounds_toArray, List.set_cons_zero, List.set_cons_succ])
          refine tkW (v := ?_) 1 nwmA1 rfl (by kernel_rfl) (by kernel_rfl) (by kernel_rfl) (fun _ _ _ h => h) (by rfl) ?_ (by assumption) ?_
          rotate_left
          · intro w hSw; (try dsimp only at hSw); go_simp; (try with_reducible rfl)
          (try simp only [Act.put, nwmA1, List.setIfInBounds_toArray, List.set_cons_zero, List.set_cons_succ])
          refine tkW (v := ?_) 2 nwmA2 rfl (by kernel_rfl) (by kernel_rfl) (by kernel_rfl) (fun _ _ _ h => h) (by rfl) ?_ (by assumption) ?_
          rotate_left
          · intro w hSw; (try dsimp only at hSw); go_simp; (try with_reducible rfl)
          (try simp only [Act.put, nwmA2, List.setIfInBounds_toArray, List.set_cons_zero, List.set_cons_succ])
          refine tkW (v := ?_) 3 nwmA3 rfl (by kernel_rfl) (by kernel_rfl) (by kernel_rfl) (fun _ _ _ h => h) (by rfl) ?_ (by assumption) ?_
          rotate_left
          · intro w hSw; (try dsimp only at hSw); go_simp; (try with_reducible rfl)
          (try simp only [Act.put, nwmA3, List.setIfInBounds_toArray, List.set_cons_zero, List.set_cons_succ])
          refine tkW (v := ?_) 4 nwmA4 rfl (by kernel_rfl) (by kernel_rfl) (by kernel_rfl) (fun _ _ _ h => h) (by rfl) ?_ (by assumption) ?_
          rotate_left
          · intro w hSw; (try dsimp only at hSw); go_simp; (try with_reducible rfl)
          (try simp only [Act.put, nwmA4, List.setIfInBounds_toArray, List.set_cons_zero, List.set_cons_succ])
          refine tkW (v := ?_) 5 nwmA5 rfl (by kernel_rfl) (by kernel_rfl) (by kernel_rfl) (fun _ _ _ h => h) (by rfl) ?_ (by assumption) ?_
          rotate_left
          · intro w hSw; (try dsimp only at hSw); go_simp; (try with_reducible rfl)
          (try simp only [Act.put, nwmA5, List.setIfInBounds_toArray, List.set_cons_zero, List.set_cons_succ])
          refine tkW (v := ?_) 6 nwmA6 rfl (by kernel_rfl) (by kernel_rfl) (by kernel_rfl) (fun _ _ _ h => h) (by rfl) ?_ (by assumption) ?_
          rotate_left
          · intro w hSw; (try dsimp only at hSw); go_simp; (try with_reducible rfl)
          (try simp only [Act.put, nwmA6, List.setIfInBounds_toArray, List.set_cons_zero, List.set_cons_succ])
          refine tkW (v := ?_) 7 nwmA7 rfl (by kernel_rfl) (by kernel_rfl) (by kernel_rfl) (fun _ _ _ h => h) (by rfl) ?_ (by assumption) ?_
          rotate_left
          · intro w hSw; (try dsimp only at hSw); go_simp; (try with_reducible rfl)
          (try simp only [Act.put, nwmA7, List.setIfInBounds_toArray, List.set_cons_zero, List.set_cons_succ])
          refine tkW (v := ?_) 8 nwmA8 rfl (by kernel_rfl) (by kernel_rfl) (by kernel_rfl) (fun _ _ _ h => h) (by rfl) ?_ (by assumption) ?_
          rotate_left
          · intro w hSw; (try dsimp only at hSw); go_simp; (try with_reducible rfl)
          (try simp only [Act.put, nwmA8, List.setIfInBounds_toArray, List.set_cons_zero, List.set_cons_succ])
          refine tkW (v := ?_) 9 nwmA9 rfl (by kernel_rfl) (by kernel_rfl) (by kernel_rfl) (fun _ _ _ h => h) (by rfl) ?_ (by assumption) ?_
          rotate_left
          · intro w hSw; (try dsimp only at hSw); go_simp; (try with_reducible rfl)
          (try simp only [Act.put, nwmA9, List.setIfInBounds_toArray, List.set_cons_zero, List.set_cons_succ])
          refine tkW (v := ?_) 10 nwmA10 rfl (by kernel_rfl) (by kernel_rfl) (by kernel_rfl) (fun _ _ _ h => h) (by rfl) ?_ (by assumption) ?_
          rotate_left
          · intro w hSw; (try dsimp only at hSw); go_simp; (try with_reducible rfl)
          (try simp only [Act.put, nwmA10, List.setIfInBounds_toArray, List.set_cons_zero, List.set_cons_succ])
          refine tkW (v := ?_) 11 nwmA11 rfl (by kernel_rfl) (by kernel_rfl) (by kernel_rfl) (fun _ _ _ h => h) (by rfl) ?_ (by assumption) ?_
          rotate_left
          · intro w hSw; (try dsimp only at hSw); go_simp; (try with_reducible rfl)
          (try simp only [Act.put, nwmA11, List.setIfInBounds_toArray, List.set_cons_zero, List.set_cons_succ])
          refine tkW (v := ?_) 12 nwmA12 rfl (by kernel_rfl) (by kernel_rfl) (by kernel_rfl) (fun _ _ _ h => h) (by rfl) ?_ (by assumption) ?_
          rotate_left
          · intro w hSw; (try dsimp only at hSw); go_simp; (try with_reducible rfl)
          (try simp only [Act.put, nwmA12, List.setIfInBounds_toArray, List.set_cons_zero, List.set_cons_succ])
          refine tkW (v := ?_) 13 nwmA13 rfl (by kernel_rfl) (by kernel_rfl) (by kernel_rfl) (fun _ _ _ h => h) (by rfl) ?_ (by assumption) ?_
          rotate_left
          · intro w hSw; (try dsimp only at hSw); go_simp; (try with_reducible rfl)
          (try simp only [Act.put, nwmA13, List.setIfInBounds_toArray, List.set_cons_zero, List.set_cons_succ])
          refine tkW (v := ?_) 14 nwmA14 rfl (by kernel_rfl) (by kernel_rfl) (by kernel_rfl) (fun _ _ _ h => h) (by rfl) ?_ (by assumption) ?_
          rotate_left
          · intro w hSw; (try dsimp only at hSw); go_simp; (try with_reducible rfl)
          (try simp only [Act.put, nwmA14, List.setIfInBounds_toArray, List.set_cons_zero, List.set_cons_succ])
          refine wpAnyH_done (by kernel_rfl) ?_ _
          obtain ⟨xv0, xv1, xv2, _⟩ := KSv.out _ (Kp.refl V)
          go_wp2_with (at_builtin; refine wpList_app rfl (.tmp 29) (.tmp 31) 38 rfl w1.heap.size 53 i0 (.agg #[.int .i64 0, .int .i64 0]) 2 16 Tryz.underlying38 hi hz0 hz1 hz2 rfl (by decide) _ n5 (cellsR X) rfl (own_kp OW.out (by first | with_reducible exact (Kp.refl V) | ((repeat (first | with_reducible refine Kp.trans ?_ (Kp.drew _) | with_reducible refine Kp.trans ?_ (Kp.alloc _ _))); with_reducible exact (Kp.refl V)))) _ 1 [.int .i64 lo, .int .i64 hi'] rfl (one_src _ _ _ _) (by simp) (by intro u hu; simp at hu; rcases hu with rfl | rfl <;> rfl) (by unfold maxLen; omega) (by omega) (Nat.le_trans bs (Below.size (show Kp V _ from (by first | with_reducible exact (Kp.refl V) | ((repeat (first | with_reducible refine Kp.trans ?_ (Kp.drew _) | with_reducible refine Kp.trans ?_ (Kp.alloc _ _))); with_reducible exact (Kp.refl V)))))) ?_; intro v7 w7 hown hgrow hat)
          go_roundw
          case rel => exact ⟨k + 1, by omega, by go_num, Lib.hid (by rw [NX.out]; have h := hown; rw [← HN5.out] at h; exact own_snoc h), Lib.hid (Kp.grown (show Kp w1 _ from KWV.out.trans (by first | with_reducible exact (Kp.refl V) | ((repeat (first | with_reducible refine Kp.trans ?_ (Kp.drew _) | with_reducible refine Kp.trans ?_ (Kp.alloc _ _))); with_reducible exact (Kp.refl V)))) hgrow (fun j hj => (OW.out.lt j hj).1))⟩
          case measure => simp [intOf]; omega
        · rw [if_neg c] at nx
          have NX := Lib.hid nx
          have u1 : decide (hi' > y2) = false := decide_eq_false c
          have u2 : decide (y2 < hi') = false := decide_eq_false c
          clear hX eX elo hn5 nx c em hz
          obtain ⟨V, hVv⟩ : ∃ x, x = wr.alloc (.cells #[.int .i64 lo, .int .i64 hi'] 53) := ⟨_, rfl⟩
          have kav : Kp wr V := by rw [hVv]; exact Kp.alloc _ _
          have gqv0 : V.heap[wr.heap.size]? = some (.cells #[.int .i64 lo, .int .i64 hi'] 53 (0, 0)) := by rw [hVv]; exact heap_at _ _ _ (by first | rfl | simp)
          rw [← hVv] at kkVV
          have KSv := Lib.hid (fun w' (kq : Kp V w') => show w'.cell? ⟨wr.heap.size, 0, none⟩ = some (.int .i64 lo) ∧ w'.cell? ⟨wr.heap.size, 1, none⟩ = some (.int .i64 hi') ∧ w'.cell? ⟨g, m5 * 2 + 1, none⟩ = some (.int .i64 y2) ∧ Kp V w' from ⟨(row2 (heap_block kq gqv0)).1, (row2 (heap_block kq gqv0)).2, cell_up kq (cell_up kkVV cq), kq⟩)
          have GQv0 := Lib.hid gqv0
          have HVv := Lib.hid hVv
          have KV := Lib.hid kav
          clear hVv kav gqv0
          have kkV : Kp V V := Kp.refl _
          have OW := Lib.hid (own_kp o5 KV.out)
          have KWV := Lib.hid (J.out.trans KV.out)
          have bs := Below.size KWV.out
          clear O5 o5
          go_upto_region 6 with fail
          rw [← HVv.out]
          clear HVv r1 r2 cq
          refine wp_region_held_drew (S := fun w' => w'.cell? ⟨wr.heap.size, 0, none⟩ = some (.int .i64 lo) ∧ w'.cell? ⟨wr.heap.size, 1, none⟩ = some (.int .i64 hi') ∧ w'.cell? ⟨g, m5 * 2 + 1, none⟩ = some (.int .i64 y2) ∧ Kp V w') (by kernel_rfl) ?_ (fun hHeld0 => ?_)
          · (try dsimp only); exact KSv.out _ (by first | with_reducible exact kkV | ((repeat (first | with_reducible refine Kp.trans ?_ (Kp.drew _) | with_reducible refine Kp.trans ?_ (Kp.alloc _ _))); with_reducible exact kkV))
          refine tkW (v := ?_) 0 nwmA0 rfl (by kernel_rfl) (by kernel_rfl) (by kernel_rfl) (fun _ _ _ h => h) (by rfl) ?_ (by assumption) ?_
          rotate_left
          · intro w hSw; (try dsimp only at hSw); go_simp; (try with_reducible rfl)
          (try simp only [Act.put, nwmA0, List.setIfInBounds_toArray, List.set_cons_zero, List.set_cons_succ])
          refine tkW (v := ?_) 1 nwmA1 rfl (by kernel_rfl) (by kernel_rfl) (by kernel_rfl) (fun _ _ _ h => h) (by rfl) ?_ (by assumption) ?_
          rotate_left
          · intro w hSw; (try dsimp only at hSw); go_simp; (try with_reducible rfl)
          (try simp only [Act.put, nwmA1, List.setIfInBounds_toArray, List.set_cons_zero, List.set_cons_succ])
          refine tkW (v := ?_) 2 nwmA2 rfl (by kernel_rfl) (by kernel_rfl) (by kernel_rfl) (fun _ _ _ h => h) (by rfl) ?_ (by assumption) ?_
          rotate_left
          · intro w hSw; (try dsimp only at hSw); go_simp; (try with_reducible rfl)
          (try simp only [Act.put, nwmA2, List.setIfInBounds_toArray, List.set_cons_zero, List.set_cons_succ])
          refine tkW (v := ?_) 3 nwmA3 rfl (by kernel_rfl) (by kernel_rfl) (by kernel_rfl) (fun _ _ _ h => h) (by rfl) ?_ (by assumption) ?_
          rotate_left
          · intro w hSw; (try dsimp only at hSw); go_simp; (try with_reducible rfl)
          (try simp only [Act.put, nwmA3, List.setIfInBounds_toArray, List.set_cons_zero, List.set_cons_succ])
          refine tkW (v := ?_) 4 nwmA4 rfl (by kernel_rfl) (by kernel_rfl) (by kernel_rfl) (fun _ _ _ h => h) (by rfl) ?_ (by assumption) ?_
          rotate_left
          · intro w hSw; (try dsimp only at hSw); go_simp; (try with_reducible rfl)
          (try simp only [Act.put, nwmA4, List.setIfInBounds_toArray, List.set_cons_zero, List.set_cons_succ])
          refine tkW (v := ?_) 5 nwmA5 rfl (by kernel_rfl) (by kernel_rfl) (by kernel_rfl) (fun _ _ _ h => h) (by rfl) ?_ (by assumption) ?_
          rotate_left
          · intro w hSw; (try dsimp only at hSw); go_simp; (try with_reducible rfl)
          (try simp only [Act.put, nwmA5, List.setIfInBounds_toArray, List.set_cons_zero, List.set_cons_succ])
          refine tkW (v := ?_) 6 nwmA6 rfl (by kernel_rfl) (by kernel_rfl) (by kernel_rfl) (fun _ _ _ h => h) (by rfl) ?_ (by assumption) ?_
          rotate_left
          · intro w hSw; (try dsimp only at hSw); go_simp; (try with_reducible rfl)
          (try simp only [Act.put, nwmA6, List.setIfInBounds_toArray, List.set_cons_zero, List.set_cons_succ])
          refine tkW (v := ?_) 7 nwmA7 rfl (by kernel_rfl) (by kernel_rfl) (by kernel_rfl) (fun _ _ _ h => h) (by rfl) ?_ (by assumption) ?_
          rotate_left
          · intro w hSw; (try dsimp only at hSw); go_simp; (try with_reducible rfl)
          (try simp only [Act.put, nwmA7, List.setIfInBounds_toArray, List.set_cons_zero, List.set_cons_succ])
          refine tkW (v := ?_) 8 nwmA8 rfl (by kernel_rfl) (by kernel_rfl) (by kernel_rfl) (fun _ _ _ h => h) (by rfl) ?_ (by assumption) ?_
          rotate_left
          · intro w hSw; (try dsimp only at hSw); go_simp; (try with_reducible rfl)
          (try simp only [Act.put, nwmA8, List.setIfInBounds_toArray, List.set_cons_zero, List.set_cons_succ])
          refine tkW (v := ?_) 9 nwmA9 rfl (by kernel_rfl) (by kernel_rfl) (by kernel_rfl) (fun _ _ _ h => h) (by rfl) ?_ (by assumption) ?_
          rotate_left
          · intro w hSw; (try dsimp only at hSw); go_simp; (try with_reducible rfl)
          (try simp only [Act.put, nwmA9, List.setIfInBounds_toArray, List.set_cons_zero, List.set_cons_succ])
          refine tkW (v := ?_) 10 nwmA10 rfl (by kernel_rfl) (by kernel_rfl) (by kernel_rfl) (fun _ _ _ h => h) (by rfl) ?_ (by assumption) ?_
          rotate_left
          · intro w hSw; (try dsimp only at hSw); go_simp; (try with_reducible rfl)
          (try simp only [Act.put, nwmA10, List.setIfInBounds_toArray, List.set_cons_zero, List.set_cons_succ])
          refine tkW (v := ?_) 11 nwmA11 rfl (by kernel_rfl) (by kernel_rfl) (by kernel_rfl) (fun _ _ _ h => h) (by rfl) ?_ (by assumption) ?_
          rotate_left
          · intro w hSw; (try dsimp only at hSw); go_simp; (try with_reducible rfl)
          (try simp only [Act.put, nwmA11, List.setIfInBounds_toArray, List.set_cons_zero, List.set_cons_succ])
          refine tkW (v := ?_) 12 nwmA12 rfl (by kernel_rfl) (by kernel_rfl) (by kernel_rfl) (fun _ _ _ h => h) (by rfl) ?_ (by assumption) ?_
          rotate_left
          · intro w hSw; (try dsimp only at hSw); go_simp; (try with_reducible rfl)
          (try simp only [Act.put, nwmA12, List.setIfInBounds_toArray, List.set_cons_zero, List.set_cons_succ])
          refine tkW (v := ?_) 13 nwmA13 rfl (by kernel_rfl) (by kernel_rfl) (by kernel_rfl) (fun _ _ _ h => h) (by rfl) ?_ (by assumption) ?_
          rotate_left
          · intro w hSw; (try dsimp only at hSw); go_simp; (try with_reducible rfl)
          (try simp only [Act.put, nwmA13, List.setIfInBounds_toArray, List.set_cons_zero, List.set_cons_succ])
          refine tkW (v := ?_) 14 nwmA14 rfl (by kernel_rfl) (by kernel_rfl) (by kernel_rfl) (fun _ _ _ h => h) (by rfl) ?_ (by assumption) ?_
          rotate_left
          · intro w hSw; (try dsimp only at hSw); go_simp; (try with_reducible rfl)
          (try simp only [Act.put, nwmA14, List.setIfInBounds_toArray, List.set_cons_zero, List.set_cons_succ])
          refine wpAnyH_done (by kernel_rfl) ?_ _
          obtain ⟨xv0, xv1, xv2, _⟩ := KSv.out _ (Kp.refl V)
          go_wp2
          go_roundw
          case rel => exact ⟨k + 1, by omega, by go_num, Lib.hid (by rw [NX.out]; unfold OwnR; rw [HN5.out]; exact own_kp OW.out (show Kp V _ from (by first | with_reducible exact (Kp.refl V) | ((repeat (first | with_reducible refine Kp.trans ?_ (Kp.drew _) | with_reducible refine Kp.trans ?_ (Kp.alloc _ _))); with_reducible exact (Kp.refl V))))), Lib.hid (KWV.out.trans (by first | with_reducible exact (Kp.refl V) | ((repeat (first | with_reducible refine Kp.trans ?_ (Kp.drew _) | with_reducible refine Kp.trans ?_ (Kp.alloc _ _))); with_reducible exact (Kp.refl V))))⟩
          case measure => simp [intOf]; omega
    · have q2 : decide ((k : Int) < (L'.length : Int)) = false := decide_eq_false (by omega)
      have q3 : decide (k < L'.length) = false := decide_eq_false (by omega)
      obtain rfl : k = L'.length := by omega
      rw [List.take_length] at O5 ⊢
      go_wp2
      go_ret
      obtain ⟨K, k1, k2, k3, k4⟩ := RET.out _ _ O5.out J.out
      exact ⟨_, L', K, rfl, H2.out, H1.out, k2, k1, k3, k4⟩
end Go.Proofs.YtjdnejglapnbbaaGreatDoor
