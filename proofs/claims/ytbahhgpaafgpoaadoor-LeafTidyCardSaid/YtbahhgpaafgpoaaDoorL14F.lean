/-
  Layer 14: the walk of LeafTidy.
-/
import Derived.Test.YtbahhgpaafgpoaaDoorGLeafB
import Derived.Test.YtbahhgpaafgpoaaDoorGLeafA
import Derived.Test.YtbahhgpaafgpoaaDoorGSetA
import Derived.Test.YtbahhgpaafgpoaaDoorGSetC
import Derived.LoopTactic
namespace Go.Proofs.YtbahhgpaafgpoaaDoor
open Go.RowKit
set_option linter.unusedVariables false
set_option linter.unusedSimpArgs false
theorem pairs_tidy {F : Fam} (h : FOK F) : pairsF (famR (lfOf F)) = pairsF F := by
  rw [famR_lfOf h]
  split
  · rename_i e
    have := (pairs_none h).symm.trans e
    have h0 : (pairsF F) = [] := by
      have := of_decide_eq_true this
      rw [List.length_take] at this
      exact List.length_eq_zero_iff.1 (by omega)
    rw [h0]
    rfl
  · rfl
theorem tidy_fok {F : Fam} (h : FOK F) : leafB (lfOf F) = true := leafB_lfOf h
theorem tidy_sane {F : Fam} (h : FOK F) : sane (lfOf F).a ∧ sane (lfOf F).b := by
  have hb := leafB_lfOf h
  rcases Bool.eq_false_or_eq_true (lfOf F).sp with hs | hs
  · have := leafB_span hb hs
    exact ⟨setB_sane this.2.1, setB_sane this.2.2⟩
  · have := leafB_units hb hs
    exact ⟨setB_sane this.2.1, by rw [this.2.2]; trivial⟩
theorem tidy_next {F : Fam} (h : FOK F) (hs : (lfOf F).sp = true) (i : Nat) (hi : i < (lfOf F).a.length) : (nxt (lfOf F).b (at_ (lfOf F).a i).2).2 = true := by
  cases F with
  | units k s =>
    by_cases h0 : s.length = 0
    · rw [lfOf_u0 h0] at hi; exact absurd hi (by simp [lf0])
    · rw [lfOf_u1 h0] at hs; exact absurd hs (by simp)
  | span s e =>
    by_cases h0 : s.length = 0
    · rw [lfOf_s0 h0] at hi; exact absurd hi (by simp [lf0])
    · rw [lfOf_s1 h0] at hi ⊢
      exact span_next h rfl hi
theorem tidy_prev {F : Fam} (h : FOK F) (hs : (lfOf F).sp = true) (i : Nat) (hi : i < (lfOf F).b.length) : (prv (lfOf F).a (at_ (lfOf F).b i).1).2 = true := by
  cases F with
  | units k s =>
    by_cases h0 : s.length = 0
    · rw [lfOf_u0 h0] at hi; exact absurd hi (by simp [lf0])
    · rw [lfOf_u1 h0] at hs; exact absurd hs (by simp)
  | span s e =>
    by_cases h0 : s.length = 0
    · rw [lfOf_s0 h0] at hi; exact absurd hi (by simp [lf0])
    · rw [lfOf_s1 h0] at hi ⊢
      exact span_prev h rfl hi
set_option maxHeartbeats 2000000 in
theorem samePairs_any (v u : Value) (l m : List R) (w : World) (hv : RunsAt w v l) (hu : RunsAt w u m) (hn : l.length ≤ 4000000) (hn2 : m.length ≤ 4000000) :
    Calls Tryd.prog 20 #[v, u] w fun e w' => e = .returned (.bool (decide (l = m))) ∧ Kp w w' := by
  obtain ⟨ad, c, rfl⟩ := hv.slice
  obtain ⟨ad', c', rfl⟩ := hu.slice
  have HV := Lib.hid hv
  have HU := Lib.hid hu
  clear hv hu
  by_cases hlen : l.length = m.length
  · have q : ((l.length : Int) != (m.length : Int)) = false := by simp; omega
    have q' : ((l.length : Int) == (m.length : Int)) = true := by simp; omega
    have HLEN := Lib.hid hlen
    rw [← hlen] at q q' ⊢
    clear hlen
    go_enter Tryd.func20, Tryd.ntmps20
    go_wp2
    go_loopw [5] (fun i wr => ∃ k : Nat, k ≤ l.length ∧ i = .int .i64 k ∧ Hid (∀ i, i < k → at_ l i = at_ m i) ∧ Hid (Kp w wr)) (fun i _ => l.length - (intOf i).toNat)
    case atStart => exact ⟨0, by omega, rfl, Lib.hid (fun i h => by omega), Lib.hid (Kp.refl _)⟩
    case round =>
      obtain ⟨k, hk, rfl, EQ, K1⟩ := hrel
      by_cases hlt : k < l.length
      · rcases HV.out with ⟨_, _, _, e⟩ | ⟨b, off, cap, ev, hc, hm, hx⟩
        · rw [e] at hlt; simp at hlt
        rcases HU.out with ⟨_, _, _, e⟩ | ⟨b', off', cap', ev', hc', hm', hx'⟩
        · have := HLEN.out; rw [e] at this; simp at this; rw [this] at hlt; simp at hlt
        cases ev
        have ev2 := Lib.hid ev'
        rw [← HLEN.out] at ev'
        cases ev'
        obtain ⟨d1, d2⟩ := rd_at hx K1.out k hlt
        obtain ⟨d3, d4⟩ := rd_at hx' K1.out k (by rw [← HLEN.out]; exact hlt)
        clear hx hx' ev2
        obtain ⟨x1, x2, e1⟩ : ∃ x y, at_ l k = (x, y) := ⟨_, _, rfl⟩
        obtain ⟨y1, y2, e2⟩ : ∃ x y, at_ m k = (x, y) := ⟨_, _, rfl⟩
        have NE := Lib.hid (same_ne (l := l) (m := m) (k := k))
        rw [e1, e2] at NE
        have EE := Lib.hid (And.intro e1 e2)
        rw [e1] at d1 d2
        rw [e2] at d3 d4
        simp only at d1 d2 d3 d4
        clear e1 e2
        have z1 : (0 : Int) ≤ (k : Int) := by omega
        have z2 : (k : Int) < l.length := by omega
        by_cases a1 : x1 = y1
        · by_cases a2 : x2 = y2
          · subst a1 a2
            go_wp2_with fail
            go_quiet (fail)
            go_wp2
            go_roundw
            case rel => exact ⟨k + 1, by omega, by go_num, Lib.hid (fun i hi => by
              by_cases c : i < k
              · exact EQ.out i c
              · obtain rfl : i = k := by omega
                rw [EE.out.1, EE.out.2]), Lib.hid (K1.out.trans (Kp.drewN _ _))⟩
            case measure => simp [intOf]; omega
          · have N := Lib.hid (NE.out (fun h => a2 (Prod.mk.inj h).2))
            subst a1
            have q2 : (x2 == y2) = false := by simpa using a2
            go_wp2_with fail
            go_quiet (fail)
            go_wp2
            go_ret
            exact ⟨ret_bool N.out.symm, K1.out.trans (Kp.drewN _ _)⟩
        · have N := Lib.hid (NE.out (fun h => a1 (Prod.mk.inj h).1))
          have q1 : (x1 == y1) = false := by simpa using a1
          go_wp2_with fail
          go_quiet (fail)
          go_wp2
          go_ret
          exact ⟨ret_bool N.out.symm, K1.out.trans (Kp.drewN _ _)⟩
      · have D := Lib.hid (decide_eq_true (at_ext HLEN.out (fun i hi => EQ.out i (by omega))))
        have q3 : decide ((k : Int) < l.length) = false := by simp; omega
        go_wp2
        go_ret
        exact ⟨ret_bool D.out.symm, K1.out⟩
  · have q : ((l.length : Int) != (m.length : Int)) = true := by simp; omega
    have q' : ((l.length : Int) == (m.length : Int)) = false := by simp; omega
    have q2 : ¬ (l.length : Int) = (m.length : Int) := by omega
    have D := Lib.hid (decide_eq_false (fun e : l = m => hlen (by rw [e])))
    go_enter Tryd.func20, Tryd.ntmps20
    go_wp2
    go_ret
    exact ⟨ret_bool D.out.symm, Kp.refl _⟩

theorem samePairs_yes (v u : Value) (l : List R) (w : World) (hv : RunsAt w v l) (hu : RunsAt w u l) (hn : l.length ≤ 4000000) :
    Calls Tryd.prog 20 #[v, u] w fun e w' => e = .returned (.bool true) ∧ Kp w w' := by
  have := samePairs_any v u l l w hv hu hn hn
  rw [decide_eq_true rfl] at this
  exact this
theorem rsame_yes (v u : Value) (l : List R) (w : World) (hv : RunsAt w v l) (hu : RunsAt w u l) (hn : l.length ≤ 4000000) :
    Calls Tryd.prog 41 #[v, u] w fun e w' => e = .returned (.bool true) ∧ Kp w w' := by
  have := rsame_any v u l l w hv hu hn hn
  rw [decide_eq_true rfl] at this
  exact this
set_option maxHeartbeats 4000000 in
set_option maxRecDepth 100000 in
theorem same14_yes (f : LF) (va vb ua ub : Value) (w : World) (h : LeafOk w f va vb) (g : LeafOk w f ua ub) :
    Calls Tryd.prog 17 #[leafV f va vb, leafV f ua ub] w fun e w' => e = .returned (.bool true) ∧ Kp w w' := by
  obtain ⟨ra, rb, ia, ib, na, nb⟩ := h
  obtain ⟨ra', rb', _, _, _, _⟩ := g
  obtain ⟨sp, u, a, b⟩ := f
  simp only at *
  obtain ⟨ad, ca, rfl⟩ := ra.slice
  obtain ⟨bd, cb, rfl⟩ := rb.slice
  obtain ⟨ad', ca', rfl⟩ := ra'.slice
  obtain ⟨bd', cb', rfl⟩ := rb'.slice
  obtain ⟨W0, hW⟩ : ∃ W0, W0 = (w.alloc (.cells #[.bool sp, .int .i64 u, .slice ad a.length ca, .slice bd b.length cb] 24)).alloc (.cells #[.bool sp, .int .i64 u, .slice ad' a.length ca', .slice bd' b.length cb'] 24) := ⟨_, rfl⟩
  have k0 : Kp w W0 := by rw [hW]; exact (Kp.alloc _ _).trans (Kp.alloc _ _)
  have HB := Lib.hid (fun w1 (k : Kp W0 w1) => show w1.cell? ⟨w.heap.size, 0, none⟩ = some (.bool sp) ∧ w1.cell? ⟨w.heap.size, 1, none⟩ = some (.int .i64 u) ∧ w1.cell? ⟨w.heap.size, 2, none⟩ = some (.slice ad a.length ca) ∧ w1.cell? ⟨w.heap.size, 3, none⟩ = some (.slice bd b.length cb) ∧
      w1.cell? ⟨w.heap.size + 1, 0, none⟩ = some (.bool sp) ∧ w1.cell? ⟨w.heap.size + 1, 1, none⟩ = some (.int .i64 u) ∧ w1.cell? ⟨w.heap.size + 1, 2, none⟩ = some (.slice ad' a.length ca') ∧ w1.cell? ⟨w.heap.size + 1, 3, none⟩ = some (.slice bd' b.length cb') from
    ⟨cell_up k (by rw [hW]; simp), cell_up k (by rw [hW]; simp), cell_up k (by rw [hW]; simp), cell_up k (by rw [hW]; simp), cell_up k (by rw [hW]; simp), cell_up k (by rw [hW]; simp), cell_up k (by rw [hW]; simp), cell_up k (by rw [hW]; simp)⟩)
  have A1 := Lib.hid (fun w1 (k : Kp W0 w1) => rsame_yes _ _ a w1 (ra.kp (k0.trans k)) (ra'.kp (k0.trans k)) (by omega))
  have A2 := Lib.hid (fun w1 (k : Kp W0 w1) => rsame_yes _ _ b w1 (rb.kp (k0.trans k)) (rb'.kp (k0.trans k)) (by omega))
  have K0 := Lib.hid k0
  have Z0 := Lib.hid (Kp.refl W0)
  have HW := Lib.hid hW
  unfold leafV
  simp only
  clear hW k0 ra rb ra' rb' ia ib
  have us : (u == u) = true := by simp
  have ss : (sp == sp) = true := by simp
  go_enter Tryd.func17, Tryd.ntmps17
  obtain ⟨c0, c1, c2, c3, c4, c5, c6, c7⟩ := HB.out W0 (Kp.refl _)
  go_wp2_with fail
  rw [← HW.out]
  refine (A1.out _ (by first | with_reducible exact Z0.out | with_reducible exact Z0.out.trans (Kp.alloc _ _) | with_reducible exact (Z0.out.trans (Kp.alloc _ _)).trans (Kp.alloc _ _) | with_reducible exact ((Z0.out.trans (Kp.alloc _ _)).trans (Kp.alloc _ _)).trans (Kp.alloc _ _) | with_reducible exact Z0.out.trans (Kp.drew _) | with_reducible exact Z0.out.trans (Kp.drewN _ _))).mono ?_
  rintro e w1 ⟨rfl, kk⟩
  have Z1 := Lib.hid ((show Kp W0 _ from (by first | with_reducible exact Z0.out | with_reducible exact Z0.out.trans (Kp.alloc _ _) | with_reducible exact (Z0.out.trans (Kp.alloc _ _)).trans (Kp.alloc _ _) | with_reducible exact ((Z0.out.trans (Kp.alloc _ _)).trans (Kp.alloc _ _)).trans (Kp.alloc _ _) | with_reducible exact Z0.out.trans (Kp.drew _) | with_reducible exact Z0.out.trans (Kp.drewN _ _))).trans kk)
  clear kk c0 c1 c2 c3 c4 c5 c6 c7
  obtain ⟨c0, c1, c2, c3, c4, c5, c6, c7⟩ := HB.out w1 Z1.out
  go_wp2_with fail
  refine (A2.out _ (by first | with_reducible exact Z1.out | with_reducible exact Z1.out.trans (Kp.alloc _ _) | with_reducible exact (Z1.out.trans (Kp.alloc _ _)).trans (Kp.alloc _ _) | with_reducible exact ((Z1.out.trans (Kp.alloc _ _)).trans (Kp.alloc _ _)).trans (Kp.alloc _ _) | with_reducible exact Z1.out.trans (Kp.drew _) | with_reducible exact Z1.out.trans (Kp.drewN _ _))).mono ?_
  rintro e w2 ⟨rfl, kk⟩
  have Z2 := Lib.hid ((show Kp W0 _ from (by first | with_reducible exact Z1.out | with_reducible exact Z1.out.trans (Kp.alloc _ _) | with_reducible exact (Z1.out.trans (Kp.alloc _ _)).trans (Kp.alloc _ _) | with_reducible exact ((Z1.out.trans (Kp.alloc _ _)).trans (Kp.alloc _ _)).trans (Kp.alloc _ _) | with_reducible exact Z1.out.trans (Kp.drew _) | with_reducible exact Z1.out.trans (Kp.drewN _ _))).trans kk)
  go_wp2
  go_ret
  exact ⟨rfl, K0.out.trans Z2.out⟩
abbrev tA0 : Oper := { dst := some 20, op := Go.Op.load 24 (Go.Operand.tmp 6), type := 24, pos := "law.go:122", after := #[], guard := none }
abbrev tA1 : Oper := { dst := some 21, op := Go.Op.call { callee := Go.Callee.value (Go.Operand.func 16), args := #[Go.Operand.tmp 20], argTypes := #[24] }, type := 4, pos := "law.go:122", after := #[{ on := 0, ground := Go.Ground.data }], guard := none }
abbrev tA2 : Oper := { dst := some 22, op := Go.Op.unOp Go.UnOp.not 4 (Go.Operand.tmp 21), type := 4, pos := "law.go:122", after := #[{ on := 1, ground := Go.Ground.data }], guard := none }
abbrev tA3 : Oper := { dst := some 23, op := Go.Op.move (Go.Operand.tmp 22), type := 4, pos := "law.go:122", after := #[{ on := 2, ground := Go.Ground.data }, { on := 1, ground := Go.Ground.chain }], guard := none }
abbrev tA4 : Oper := { dst := some 24, op := Go.Op.load 24 (Go.Operand.tmp 6), type := 24, pos := "law.go:122", after := #[{ on := 3, ground := Go.Ground.guard }], guard := some (3, false) }
abbrev tA5 : Oper := { dst := some 25, op := Go.Op.load 26 (Go.Operand.tmp 3), type := 26, pos := "law.go:122", after := #[{ on := 3, ground := Go.Ground.guard }], guard := some (3, false) }
abbrev tA6 : Oper := { dst := some 26, op := Go.Op.call { callee := Go.Callee.value (Go.Operand.func 12), args := #[Go.Operand.tmp 24, Go.Operand.tmp 25], argTypes := #[24, 26] }, type := 4, pos := "law.go:122", after := #[{ on := 4, ground := Go.Ground.data }, { on := 5, ground := Go.Ground.data }, { on := 3, ground := Go.Ground.chain }, { on := 3, ground := Go.Ground.guard }], guard := some (3, false) }
abbrev tA7 : Oper := { dst := some 27, op := Go.Op.load 24 (Go.Operand.tmp 2), type := 24, pos := "law.go:122", after := #[{ on := 3, ground := Go.Ground.guard }], guard := some (3, false) }
abbrev tA8 : Oper := { dst := some 28, op := Go.Op.load 26 (Go.Operand.tmp 3), type := 26, pos := "law.go:122", after := #[{ on := 3, ground := Go.Ground.guard }], guard := some (3, false) }
abbrev tA9 : Oper := { dst := some 29, op := Go.Op.call { callee := Go.Callee.value (Go.Operand.func 12), args := #[Go.Operand.tmp 27, Go.Operand.tmp 28], argTypes := #[24, 26] }, type := 4, pos := "law.go:122", after := #[{ on := 7, ground := Go.Ground.data }, { on := 8, ground := Go.Ground.data }, { on := 6, ground := Go.Ground.chain }, { on := 3, ground := Go.Ground.guard }], guard := some (3, false) }
abbrev tA10 : Oper := { dst := some 30, op := Go.Op.binOp Go.BinOp.neq 4 (Go.Operand.tmp 26) (Go.Operand.tmp 29) 4, type := 4, pos := "law.go:122", after := #[{ on := 6, ground := Go.Ground.data }, { on := 9, ground := Go.Ground.data }, { on := 3, ground := Go.Ground.guard }], guard := some (3, false) }
abbrev tA11 : Oper := { dst := some 31, op := Go.Op.pick (Go.Operand.tmp 23) (Go.Operand.const (Go.Value.bool true)) (Go.Operand.tmp 30), type := 4, pos := "law.go:122", after := #[{ on := 3, ground := Go.Ground.data }, { on := 10, ground := Go.Ground.data }], guard := none }
abbrev tA12 : Oper := { dst := some 32, op := Go.Op.move (Go.Operand.tmp 31), type := 4, pos := "law.go:122", after := #[{ on := 11, ground := Go.Ground.data }, { on := 9, ground := Go.Ground.chain }], guard := none }
abbrev tA13 : Oper := { dst := some 33, op := Go.Op.load 24 (Go.Operand.tmp 6), type := 24, pos := "law.go:122", after := #[{ on := 12, ground := Go.Ground.guard }], guard := some (12, false) }
abbrev tA14 : Oper := { dst := some 34, op := Go.Op.call { callee := Go.Callee.value (Go.Operand.func 15), args := #[Go.Operand.tmp 33], argTypes := #[24] }, type := 24, pos := "law.go:122", after := #[{ on := 13, ground := Go.Ground.data }, { on := 12, ground := Go.Ground.chain }, { on := 12, ground := Go.Ground.guard }], guard := some (12, false) }
abbrev tA15 : Oper := { dst := some 35, op := Go.Op.load 24 (Go.Operand.tmp 6), type := 24, pos := "law.go:122", after := #[{ on := 12, ground := Go.Ground.guard }], guard := some (12, false) }
abbrev tA16 : Oper := { dst := some 36, op := Go.Op.call { callee := Go.Callee.value (Go.Operand.func 17), args := #[Go.Operand.tmp 34, Go.Operand.tmp 35], argTypes := #[24, 24] }, type := 4, pos := "law.go:122", after := #[{ on := 14, ground := Go.Ground.data }, { on := 15, ground := Go.Ground.data }, { on := 14, ground := Go.Ground.chain }, { on := 12, ground := Go.Ground.guard }], guard := some (12, false) }
abbrev tA17 : Oper := { dst := some 37, op := Go.Op.unOp Go.UnOp.not 4 (Go.Operand.tmp 36), type := 4, pos := "law.go:122", after := #[{ on := 16, ground := Go.Ground.data }, { on := 12, ground := Go.Ground.guard }], guard := some (12, false) }
abbrev tA18 : Oper := { dst := some 38, op := Go.Op.pick (Go.Operand.tmp 32) (Go.Operand.const (Go.Value.bool true)) (Go.Operand.tmp 37), type := 4, pos := "law.go:122", after := #[{ on := 12, ground := Go.Ground.data }, { on := 17, ground := Go.Ground.data }], guard := none }
abbrev tA19 : Oper := { dst := some 39, op := Go.Op.move (Go.Operand.tmp 38), type := 4, pos := "law.go:122", after := #[{ on := 18, ground := Go.Ground.data }, { on := 16, ground := Go.Ground.chain }], guard := none }
abbrev tA20 : Oper := { dst := some 40, op := Go.Op.load 24 (Go.Operand.tmp 2), type := 24, pos := "law.go:122", after := #[{ on := 19, ground := Go.Ground.guard }], guard := some (19, false) }
abbrev tA21 : Oper := { dst := some 41, op := Go.Op.call { callee := Go.Callee.value (Go.Operand.func 14), args := #[Go.Operand.tmp 40], argTypes := #[24] }, type := 4, pos := "law.go:122", after := #[{ on := 20, ground := Go.Ground.data }, { on := 19, ground := Go.Ground.chain }, { on := 19, ground := Go.Ground.guard }], guard := some (19, false) }
abbrev tA22 : Oper := { dst := some 42, op := Go.Op.fieldAddr 24 (Go.Operand.tmp 6) 2, type := 0, pos := "law.go:122", after := #[{ on := 19, ground := Go.Ground.guard }], guard := some (19, false) }
abbrev tA23 : Oper := { dst := some 43, op := Go.Op.load 22 (Go.Operand.tmp 42), type := 22, pos := "law.go:122", after := #[{ on := 22, ground := Go.Ground.data }, { on := 19, ground := Go.Ground.guard }], guard := some (19, false) }
abbrev tA24 : Oper := { dst := some 44, op := Go.Op.call { callee := Go.Callee.builtin Go.Builtin.len, args := #[Go.Operand.tmp 43], argTypes := #[22] }, type := 3, pos := "law.go:122", after := #[{ on := 23, ground := Go.Ground.data }, { on := 19, ground := Go.Ground.guard }], guard := some (19, false) }
abbrev tA25 : Oper := { dst := some 45, op := Go.Op.binOp Go.BinOp.eql 3 (Go.Operand.tmp 44) (Go.Operand.const (Go.Value.int Go.IntKind.i64 0)) 3, type := 4, pos := "law.go:122", after := #[{ on := 24, ground := Go.Ground.data }, { on := 19, ground := Go.Ground.guard }], guard := some (19, false) }
abbrev tA26 : Oper := { dst := some 46, op := Go.Op.binOp Go.BinOp.neq 4 (Go.Operand.tmp 41) (Go.Operand.tmp 45) 4, type := 4, pos := "law.go:122", after := #[{ on := 21, ground := Go.Ground.data }, { on := 25, ground := Go.Ground.data }, { on := 19, ground := Go.Ground.guard }], guard := some (19, false) }
abbrev tA27 : Oper := { dst := some 47, op := Go.Op.pick (Go.Operand.tmp 39) (Go.Operand.const (Go.Value.bool true)) (Go.Operand.tmp 46), type := 4, pos := "law.go:122", after := #[{ on := 19, ground := Go.Ground.data }, { on := 26, ground := Go.Ground.data }], guard := none }
abbrev tB0 : Oper := { dst := some 60, op := Go.Op.fieldAddr 24 (Go.Operand.tmp 6) 3, type := 0, pos := "law.go:126", after := #[], guard := none }
abbrev tB1 : Oper := { dst := some 61, op := Go.Op.load 22 (Go.Operand.tmp 60), type := 22, pos := "law.go:126", after := #[{ on := 0, ground := Go.Ground.data }], guard := none }
abbrev tB2 : Oper := { dst := some 62, op := Go.Op.fieldAddr 24 (Go.Operand.tmp 6) 2, type := 0, pos := "law.go:126", after := #[], guard := none }
abbrev tB3 : Oper := { dst := some 63, op := Go.Op.load 22 (Go.Operand.tmp 62), type := 22, pos := "law.go:126", after := #[{ on := 2, ground := Go.Ground.data }], guard := none }
abbrev tB4 : Oper := { dst := some 64, op := Go.Op.move (Go.Operand.tmp 7), type := 3, pos := "law.go:126", after := #[], guard := none }
abbrev tB5 : Oper := { dst := some 65, op := Go.Op.indexAddr 22 (Go.Operand.tmp 63) (Go.Operand.tmp 64), type := 0, pos := "law.go:126", after := #[{ on := 3, ground := Go.Ground.data }, { on := 4, ground := Go.Ground.data }], guard := none }
abbrev tB6 : Oper := { dst := some 66, op := Go.Op.fieldAddr 38 (Go.Operand.tmp 65) 1, type := 0, pos := "law.go:126", after := #[{ on := 5, ground := Go.Ground.data }], guard := none }
abbrev tB7 : Oper := { dst := some 67, op := Go.Op.load 3 (Go.Operand.tmp 66), type := 3, pos := "law.go:126", after := #[{ on := 6, ground := Go.Ground.data }], guard := none }
abbrev tB8 : Oper := { dst := some 68, op := Go.Op.call { callee := Go.Callee.value (Go.Operand.func 18), args := #[Go.Operand.tmp 61, Go.Operand.tmp 67], argTypes := #[22, 3] }, type := 35, pos := "law.go:126", after := #[{ on := 1, ground := Go.Ground.data }, { on := 7, ground := Go.Ground.data }], guard := none }
abbrev tB9 : Oper := { dst := some 59, op := Go.Op.move (Go.Operand.tmp 68), type := 35, pos := "law.go:126", after := #[{ on := 8, ground := Go.Ground.data }], guard := none }
abbrev tB10 : Oper := { dst := some 69, op := Go.Op.extract (Go.Operand.tmp 59) 0, type := 3, pos := "law.go:126", after := #[{ on := 9, ground := Go.Ground.data }], guard := none }
abbrev tB11 : Oper := { dst := some 70, op := Go.Op.extract (Go.Operand.tmp 59) 1, type := 4, pos := "law.go:126", after := #[{ on := 9, ground := Go.Ground.data }, { on := 12, ground := Go.Ground.gcOnly Go.Departure.lateStores }], guard := none }
abbrev tB12 : Oper := { dst := some 8, op := Go.Op.assign (Go.Operand.tmp 69), type := 3, pos := "law.go:126", after := #[{ on := 10, ground := Go.Ground.data }, { on := 8, ground := Go.Ground.chain }, { on := 0, ground := Go.Ground.phase }, { on := 1, ground := Go.Ground.phase }, { on := 2, ground := Go.Ground.phase }, { on := 3, ground := Go.Ground.phase }, { on := 4, ground := Go.Ground.phase }, { on := 5, ground := Go.Ground.phase }, { on := 6, ground := Go.Ground.phase }, { on := 7, ground := Go.Ground.phase }, { on := 8, ground := Go.Ground.phase }, { on := 9, ground := Go.Ground.phase }, { on := 10, ground := Go.Ground.phase }, { on := 11, ground := Go.Ground.textOnly Go.Departure.lateStores }], guard := none }
abbrev tB13 : Oper := { dst := some 9, op := Go.Op.assign (Go.Operand.tmp 70), type := 4, pos := "law.go:126", after := #[{ on := 11, ground := Go.Ground.data }, { on := 12, ground := Go.Ground.chain }, { on := 0, ground := Go.Ground.phase }, { on := 1, ground := Go.Ground.phase }, { on := 2, ground := Go.Ground.phase }, { on := 3, ground := Go.Ground.phase }, { on := 4, ground := Go.Ground.phase }, { on := 5, ground := Go.Ground.phase }, { on := 6, ground := Go.Ground.phase }, { on := 7, ground := Go.Ground.phase }, { on := 8, ground := Go.Ground.phase }, { on := 9, ground := Go.Ground.phase }, { on := 10, ground := Go.Ground.phase }, { on := 11, ground := Go.Ground.phase }, { on := 12, ground := Go.Ground.phase }], guard := none }
abbrev tC0 : Oper := { dst := some 85, op := Go.Op.fieldAddr 24 (Go.Operand.tmp 6) 2, type := 0, pos := "law.go:132", after := #[], guard := none }
abbrev tC1 : Oper := { dst := some 86, op := Go.Op.load 22 (Go.Operand.tmp 85), type := 22, pos := "law.go:132", after := #[{ on := 0, ground := Go.Ground.data }], guard := none }
abbrev tC2 : Oper := { dst := some 87, op := Go.Op.fieldAddr 24 (Go.Operand.tmp 6) 3, type := 0, pos := "law.go:132", after := #[], guard := none }
abbrev tC3 : Oper := { dst := some 88, op := Go.Op.load 22 (Go.Operand.tmp 87), type := 22, pos := "law.go:132", after := #[{ on := 2, ground := Go.Ground.data }], guard := none }
abbrev tC4 : Oper := { dst := some 89, op := Go.Op.move (Go.Operand.tmp 10), type := 3, pos := "law.go:132", after := #[], guard := none }
abbrev tC5 : Oper := { dst := some 90, op := Go.Op.indexAddr 22 (Go.Operand.tmp 88) (Go.Operand.tmp 89), type := 0, pos := "law.go:132", after := #[{ on := 3, ground := Go.Ground.data }, { on := 4, ground := Go.Ground.data }], guard := none }
abbrev tC6 : Oper := { dst := some 91, op := Go.Op.fieldAddr 38 (Go.Operand.tmp 90) 0, type := 0, pos := "law.go:132", after := #[{ on := 5, ground := Go.Ground.data }], guard := none }
abbrev tC7 : Oper := { dst := some 92, op := Go.Op.load 3 (Go.Operand.tmp 91), type := 3, pos := "law.go:132", after := #[{ on := 6, ground := Go.Ground.data }], guard := none }
abbrev tC8 : Oper := { dst := some 93, op := Go.Op.call { callee := Go.Callee.value (Go.Operand.func 19), args := #[Go.Operand.tmp 86, Go.Operand.tmp 92], argTypes := #[22, 3] }, type := 35, pos := "law.go:132", after := #[{ on := 1, ground := Go.Ground.data }, { on := 7, ground := Go.Ground.data }], guard := none }
abbrev tC9 : Oper := { dst := some 84, op := Go.Op.move (Go.Operand.tmp 93), type := 35, pos := "law.go:132", after := #[{ on := 8, ground := Go.Ground.data }], guard := none }
abbrev tC10 : Oper := { dst := some 94, op := Go.Op.extract (Go.Operand.tmp 84) 0, type := 3, pos := "law.go:132", after := #[{ on := 9, ground := Go.Ground.data }], guard := none }
abbrev tC11 : Oper := { dst := some 95, op := Go.Op.extract (Go.Operand.tmp 84) 1, type := 4, pos := "law.go:132", after := #[{ on := 9, ground := Go.Ground.data }, { on := 12, ground := Go.Ground.gcOnly Go.Departure.lateStores }], guard := none }
abbrev tC12 : Oper := { dst := some 11, op := Go.Op.assign (Go.Operand.tmp 94), type := 3, pos := "law.go:132", after := #[{ on := 10, ground := Go.Ground.data }, { on := 8, ground := Go.Ground.chain }, { on := 0, ground := Go.Ground.phase }, { on := 1, ground := Go.Ground.phase }, { on := 2, ground := Go.Ground.phase }, { on := 3, ground := Go.Ground.phase }, { on := 4, ground := Go.Ground.phase }, { on := 5, ground := Go.Ground.phase }, { on := 6, ground := Go.Ground.phase }, { on := 7, ground := Go.Ground.phase }, { on := 8, ground := Go.Ground.phase }, { on := 9, ground := Go.Ground.phase }, { on := 10, ground := Go.Ground.phase }, { on := 11, ground := Go.Ground.textOnly Go.Departure.lateStores }], guard := none }
abbrev tC13 : Oper := { dst := some 12, op := Go.Op.assign (Go.Operand.tmp 95), type := 4, pos := "law.go:132", after := #[{ on := 11, ground := Go.Ground.data }, { on := 12, ground := Go.Ground.chain }, { on := 0, ground := Go.Ground.phase }, { on := 1, ground := Go.Ground.phase }, { on := 2, ground := Go.Ground.phase }, { on := 3, ground := Go.Ground.phase }, { on := 4, ground := Go.Ground.phase }, { on := 5, ground := Go.Ground.phase }, { on := 6, ground := Go.Ground.phase }, { on := 7, ground := Go.Ground.phase }, { on := 8, ground := Go.Ground.phase }, { on := 9, ground := Go.Ground.phase }, { on := 10, ground := Go.Ground.phase }, { on := 11, ground := Go.Ground.phase }, { on := 12, ground := Go.Ground.phase }], guard := none }
abbrev tD0 : Oper := { dst := some 98, op := Go.Op.move (Go.Operand.tmp 5), type := 4, pos := "law.go:137", after := #[], guard := none }
abbrev tD1 : Oper := { dst := some 99, op := Go.Op.move (Go.Operand.tmp 98), type := 4, pos := "law.go:137", after := #[{ on := 0, ground := Go.Ground.data }], guard := none }
abbrev tD2 : Oper := { dst := some 100, op := Go.Op.load 24 (Go.Operand.tmp 6), type := 24, pos := "law.go:137", after := #[{ on := 1, ground := Go.Ground.guard }], guard := some (1, true) }
abbrev tD3 : Oper := { dst := some 101, op := Go.Op.call { callee := Go.Callee.value (Go.Operand.func 11), args := #[Go.Operand.tmp 100, Go.Operand.const (Go.Value.int Go.IntKind.i64 50)], argTypes := #[24, 3] }, type := 29, pos := "law.go:137", after := #[{ on := 2, ground := Go.Ground.data }, { on := 1, ground := Go.Ground.chain }, { on := 1, ground := Go.Ground.guard }], guard := some (1, true) }
abbrev tD4 : Oper := { dst := some 102, op := Go.Op.load 24 (Go.Operand.tmp 2), type := 24, pos := "law.go:137", after := #[{ on := 1, ground := Go.Ground.guard }], guard := some (1, true) }
abbrev tD5 : Oper := { dst := some 103, op := Go.Op.call { callee := Go.Callee.value (Go.Operand.func 11), args := #[Go.Operand.tmp 102, Go.Operand.const (Go.Value.int Go.IntKind.i64 50)], argTypes := #[24, 3] }, type := 29, pos := "law.go:137", after := #[{ on := 4, ground := Go.Ground.data }, { on := 3, ground := Go.Ground.chain }, { on := 1, ground := Go.Ground.guard }], guard := some (1, true) }
abbrev tD6 : Oper := { dst := some 104, op := Go.Op.call { callee := Go.Callee.value (Go.Operand.func 20), args := #[Go.Operand.tmp 101, Go.Operand.tmp 103], argTypes := #[29, 29] }, type := 4, pos := "law.go:137", after := #[{ on := 3, ground := Go.Ground.data }, { on := 5, ground := Go.Ground.data }, { on := 5, ground := Go.Ground.chain }, { on := 1, ground := Go.Ground.guard }], guard := some (1, true) }
abbrev tD7 : Oper := { dst := some 105, op := Go.Op.pick (Go.Operand.tmp 99) (Go.Operand.tmp 104) (Go.Operand.const (Go.Value.bool false)), type := 4, pos := "law.go:137", after := #[{ on := 1, ground := Go.Ground.data }, { on := 6, ground := Go.Ground.data }], guard := none }
abbrev tD8 : Oper := { dst := some 4, op := Go.Op.assign (Go.Operand.tmp 105), type := 4, pos := "law.go:137", after := #[{ on := 7, ground := Go.Ground.data }, { on := 6, ground := Go.Ground.chain }, { on := 0, ground := Go.Ground.phase }, { on := 1, ground := Go.Ground.phase }, { on := 2, ground := Go.Ground.phase }, { on := 3, ground := Go.Ground.phase }, { on := 4, ground := Go.Ground.phase }, { on := 5, ground := Go.Ground.phase }, { on := 6, ground := Go.Ground.phase }, { on := 7, ground := Go.Ground.phase }], guard := none }
set_option maxHeartbeats 16000000 in
set_option maxRecDepth 100000 in
theorem tidy_few (f : LF) (vaf vbf : Value) (pS pE : Int) (w : World) (raf : RunsAt w vaf f.a) (rbf : RunsAt w vbf f.b) (iaf : I64R f.a) (ibf : I64R f.b) (hp1 : -9223372036854775808 ≤ pS) (hp2 : pS ≤ 9223372036854775807) (hp3 : -9223372036854775808 ≤ pE) (hp4 : pE ≤ 9223372036854775807) (T : Tabs w) (hf : fewB f = false) :
    Calls Tryd.prog 4 #[leafV f vaf vbf, .agg #[.int .i64 pS, .int .i64 pE]] w fun e w' => e = .returned (.bool true) ∧ Kp w w' := by
  have RFW := Lib.hid (fun w1 (kk : Kp w w1) => few_any f vaf vbf w1 (raf.kp kk) (rbf.kp kk))
  rw [hf] at RFW
  obtain ⟨spf, uf, af, bf⟩ := f
  obtain ⟨adf, caf, rfl⟩ := raf.slice
  obtain ⟨bdf, cbf, rfl⟩ := rbf.slice
  unfold leafV at *
  simp only at *
  obtain ⟨W0, hW⟩ : ∃ W0, W0 = (w.alloc (.cells #[.bool spf, .int .i64 uf, .slice adf af.length caf, .slice bdf bf.length cbf] 24)).alloc (.cells #[.int .i64 pS, .int .i64 pE] 26) := ⟨_, rfl⟩
  have K00 := Lib.hid (show Kp w W0 by rw [hW]; exact (Kp.alloc _ _).trans (Kp.alloc _ _))
  have HB := Lib.hid (fun w1 (k : Kp W0 w1) => show w1.cell? ⟨w.heap.size, 0, none⟩ = some (.bool spf) ∧ w1.cell? ⟨w.heap.size, 1, none⟩ = some (.int .i64 uf) ∧ w1.cell? ⟨w.heap.size, 2, none⟩ = some (.slice adf af.length caf) ∧ w1.cell? ⟨w.heap.size, 3, none⟩ = some (.slice bdf bf.length cbf) ∧ w1.cell? ⟨w.heap.size + 1, 0, none⟩ = some (.int .i64 pS) ∧ w1.cell? ⟨w.heap.size + 1, 1, none⟩ = some (.int .i64 pE) from ⟨cell_up k (show W0.cell? ⟨w.heap.size, 0, none⟩ = some (.bool spf) by rw [hW]; simp), cell_up k (show W0.cell? ⟨w.heap.size, 1, none⟩ = some (.int .i64 uf) by rw [hW]; simp), cell_up k (show W0.cell? ⟨w.heap.size, 2, none⟩ = some (.slice adf af.length caf) by rw [hW]; simp), cell_up k (show W0.cell? ⟨w.heap.size, 3, none⟩ = some (.slice bdf bf.length cbf) by rw [hW]; simp), cell_up k (show W0.cell? ⟨w.heap.size + 1, 0, none⟩ = some (.int .i64 pS) by rw [hW]; simp), cell_up k (show W0.cell? ⟨w.heap.size + 1, 1, none⟩ = some (.int .i64 pE) by rw [hW]; simp)⟩)
  obtain ⟨c0, c1, c2, c3, c4, c5⟩ := HB.out W0 (Kp.refl _)
  have K0 := Lib.hid (Kp.refl W0)
  have HW := Lib.hid hW
  clear hW
  have AW := Lib.hid (fun w1 (kk : Kp W0 w1) => awake14 w1 (T.kp (K00.out.trans kk)))
  have FW := Lib.hid (fun w1 (kk : Kp W0 w1) => RFW.out w1 (K00.out.trans kk))
  clear raf rbf T
  go_enter Tryd.func4, Tryd.ntmps4
  go_wp2_with fail
  rw [← HW.out]
  refine (AW.out _ (by first | with_reducible exact K0.out | with_reducible exact K0.out.trans (Kp.alloc _ _) | with_reducible exact (K0.out.trans (Kp.alloc _ _)).trans (Kp.alloc _ _) | with_reducible exact ((K0.out.trans (Kp.alloc _ _)).trans (Kp.alloc _ _)).trans (Kp.alloc _ _) | with_reducible exact K0.out.trans (Kp.drew _) | with_reducible exact K0.out.trans (Kp.drewN _ _))).mono ?_
  rintro e w1 ⟨rfl, kk⟩
  have K1 := Lib.hid ((show Kp W0 _ from (by first | with_reducible exact K0.out | with_reducible exact K0.out.trans (Kp.alloc _ _) | with_reducible exact (K0.out.trans (Kp.alloc _ _)).trans (Kp.alloc _ _) | with_reducible exact ((K0.out.trans (Kp.alloc _ _)).trans (Kp.alloc _ _)).trans (Kp.alloc _ _) | with_reducible exact K0.out.trans (Kp.drew _) | with_reducible exact K0.out.trans (Kp.drewN _ _))).trans kk)
  clear kk
  clear c0 c1 c2 c3 c4 c5
  obtain ⟨c0, c1, c2, c3, c4, c5⟩ := HB.out w1 K1.out
  go_wp2_with fail
  refine (FW.out _ (by first | with_reducible exact K1.out | with_reducible exact K1.out.trans (Kp.alloc _ _) | with_reducible exact (K1.out.trans (Kp.alloc _ _)).trans (Kp.alloc _ _) | with_reducible exact ((K1.out.trans (Kp.alloc _ _)).trans (Kp.alloc _ _)).trans (Kp.alloc _ _) | with_reducible exact K1.out.trans (Kp.drew _) | with_reducible exact K1.out.trans (Kp.drewN _ _))).mono ?_
  rintro e w2 ⟨rfl, kk⟩
  have K2 := Lib.hid ((show Kp W0 _ from (by first | with_reducible exact K1.out | with_reducible exact K1.out.trans (Kp.alloc _ _) | with_reducible exact (K1.out.trans (Kp.alloc _ _)).trans (Kp.alloc _ _) | with_reducible exact ((K1.out.trans (Kp.alloc _ _)).trans (Kp.alloc _ _)).trans (Kp.alloc _ _) | with_reducible exact K1.out.trans (Kp.drew _) | with_reducible exact K1.out.trans (Kp.drewN _ _))).trans kk)
  clear kk
  clear c0 c1 c2 c3 c4 c5
  obtain ⟨c0, c1, c2, c3, c4, c5⟩ := HB.out w2 K2.out
  go_wp2
  go_ret
  exact ⟨rfl, K00.out.trans K2.out⟩
set_option maxHeartbeats 16000000 in
set_option maxRecDepth 100000 in
theorem tidy_main (f : LF) (vaf vbf : Value) (pS pE : Int) (w : World) (raf : RunsAt w vaf f.a) (rbf : RunsAt w vbf f.b) (iaf : I64R f.a) (ibf : I64R f.b) (hp1 : -9223372036854775808 ≤ pS) (hp2 : pS ≤ 9223372036854775807) (hp3 : -9223372036854775808 ≤ pE) (hp4 : pE ≤ 9223372036854775807) (T : Tabs w) (hf : fewB f = true) :
    Calls Tryd.prog 4 #[leafV f vaf vbf, .agg #[.int .i64 pS, .int .i64 pE]] w fun e w' => e = .returned (.bool true) ∧ Kp w w' := by
  have RFW := Lib.hid (fun w1 (kk : Kp w w1) => few_any f vaf vbf w1 (raf.kp kk) (rbf.kp kk))
  rw [hf] at RFW
  obtain ⟨n1, n2⟩ := fewB_yes hf
  have OK : LeafOk w f vaf vbf := ⟨raf, rbf, iaf, ibf, by omega, by omega⟩
  have FK := famR_ok f
  have RT := Lib.hid (fun w1 (kk : Kp w w1) => leafTidy_any f vaf vbf w1 (OK.kp kk) (T.kp kk))
  have RP := Lib.hid (fun w1 (kk : Kp w w1) => leafPairs_any f vaf vbf 50 w1 (OK.kp kk) (T.kp kk))
  rw [show (min 50 1000 : Int).toNat = 50 by decide] at RP
  have RH := Lib.hid (fun w1 (kk : Kp w w1) => leafHas_any f vaf vbf pS pE w1 (OK.kp kk) (T.kp kk) hp1 hp2 hp3 hp4)
  have RE := Lib.hid (fun w1 (kk : Kp w w1) => leafEmpty_any f vaf vbf w1 (OK.kp kk) (T.kp kk).2)
  rw [lfOf_len] at RE
  have GS := Lib.hid (fun va vb w1 (ok : LeafOk w1 (lfOf (famR f)) va vb) (T : Tabs w1) => leafSane_any (lfOf (famR f)) va vb w1 ok.a ok.b ok.ia ok.ib (Nat.le_trans ok.na (by decide)) (Nat.le_trans ok.nb (by decide)) T.2)
  rw [leafB_lfOf FK] at GS
  have GH := Lib.hid (fun va vb w1 (ok : LeafOk w1 (lfOf (famR f)) va vb) (T : Tabs w1) => leafHas_any (lfOf (famR f)) va vb pS pE w1 ok T hp1 hp2 hp3 hp4)
  rw [hasF_tidy FK] at GH
  have GT := Lib.hid (fun va vb w1 (ok : LeafOk w1 (lfOf (famR f)) va vb) (T : Tabs w1) => leafTidy_any (lfOf (famR f)) va vb w1 ok T)
  rw [lfOf_twice FK] at GT
  have GP := Lib.hid (fun va vb w1 (ok : LeafOk w1 (lfOf (famR f)) va vb) (T : Tabs w1) => leafPairs_any (lfOf (famR f)) va vb 50 w1 ok T)
  rw [pairs_tidy FK, show (min 50 1000 : Int).toNat = 50 by decide] at GP
  have NX := Lib.hid (tidy_next FK)
  have PV := Lib.hid (tidy_prev FK)
  have SN := Lib.hid (tidy_sane FK)
  have LP : ((pairsF (famR f)).take 50).length ≤ 4000000 := by rw [List.length_take]; omega
  generalize (pairsF (famR f)).take 50 = P at *
  generalize lfOf (famR f) = g at *
  generalize hasF (famR f) pS pE = hb at *
  clear OK FK
  obtain ⟨spf, uf, af, bf⟩ := f
  obtain ⟨adf, caf, rfl⟩ := raf.slice
  obtain ⟨bdf, cbf, rfl⟩ := rbf.slice
  unfold leafV at *
  simp only at *
  obtain ⟨W0, hW⟩ : ∃ W0, W0 = (w.alloc (.cells #[.bool spf, .int .i64 uf, .slice adf af.length caf, .slice bdf bf.length cbf] 24)).alloc (.cells #[.int .i64 pS, .int .i64 pE] 26) := ⟨_, rfl⟩
  have K00 := Lib.hid (show Kp w W0 by rw [hW]; exact (Kp.alloc _ _).trans (Kp.alloc _ _))
  have HB := Lib.hid (fun w1 (k : Kp W0 w1) => show w1.cell? ⟨w.heap.size, 0, none⟩ = some (.bool spf) ∧ w1.cell? ⟨w.heap.size, 1, none⟩ = some (.int .i64 uf) ∧ w1.cell? ⟨w.heap.size, 2, none⟩ = some (.slice adf af.length caf) ∧ w1.cell? ⟨w.heap.size, 3, none⟩ = some (.slice bdf bf.length cbf) ∧ w1.cell? ⟨w.heap.size + 1, 0, none⟩ = some (.int .i64 pS) ∧ w1.cell? ⟨w.heap.size + 1, 1, none⟩ = some (.int .i64 pE) from ⟨cell_up k (show W0.cell? ⟨w.heap.size, 0, none⟩ = some (.bool spf) by rw [hW]; simp), cell_up k (show W0.cell? ⟨w.heap.size, 1, none⟩ = some (.int .i64 uf) by rw [hW]; simp), cell_up k (show W0.cell? ⟨w.heap.size, 2, none⟩ = some (.slice adf af.length caf) by rw [hW]; simp), cell_up k (show W0.cell? ⟨w.heap.size, 3, none⟩ = some (.slice bdf bf.length cbf) by rw [hW]; simp), cell_up k (show W0.cell? ⟨w.heap.size + 1, 0, none⟩ = some (.int .i64 pS) by rw [hW]; simp), cell_up k (show W0.cell? ⟨w.heap.size + 1, 1, none⟩ = some (.int .i64 pE) by rw [hW]; simp)⟩)
  obtain ⟨c0, c1, c2, c3, c4, c5⟩ := HB.out W0 (Kp.refl _)
  have K0 := Lib.hid (Kp.refl W0)
  have HW := Lib.hid hW
  clear hW
  have AW := Lib.hid (fun w1 (kk : Kp W0 w1) => awake14 w1 (T.kp (K00.out.trans kk)))
  have FW := Lib.hid (fun w1 (kk : Kp W0 w1) => RFW.out w1 (K00.out.trans kk))
  have TD := Lib.hid (fun w1 (kk : Kp W0 w1) => RT.out w1 (K00.out.trans kk))
  clear raf rbf RFW
  go_enter Tryd.func4, Tryd.ntmps4
  go_wp2_with fail
  rw [← HW.out]
  refine (AW.out _ (by first | with_reducible exact K0.out | with_reducible exact K0.out.trans (Kp.alloc _ _) | with_reducible exact (K0.out.trans (Kp.alloc _ _)).trans (Kp.alloc _ _) | with_reducible exact ((K0.out.trans (Kp.alloc _ _)).trans (Kp.alloc _ _)).trans (Kp.alloc _ _) | with_reducible exact K0.out.trans (Kp.drew _) | with_reducible exact K0.out.trans (Kp.drewN _ _))).mono ?_
  rintro e w1 ⟨rfl, kk⟩
  have K1 := Lib.hid ((show Kp W0 _ from (by first | with_reducible exact K0.out | with_reducible exact K0.out.trans (Kp.alloc _ _) | with_reducible exact (K0.out.trans (Kp.alloc _ _)).trans (Kp.alloc _ _) | with_reducible exact ((K0.out.trans (Kp.alloc _ _)).trans (Kp.alloc _ _)).trans (Kp.alloc _ _) | with_reducible exact K0.out.trans (Kp.drew _) | with_reducible exact K0.out.trans (Kp.drewN _ _))).trans kk)
  clear kk
  clear c0 c1 c2 c3 c4 c5
  obtain ⟨c0, c1, c2, c3, c4, c5⟩ := HB.out w1 K1.out
  go_wp2_with fail
  refine (FW.out _ (by first | with_reducible exact K1.out | with_reducible exact K1.out.trans (Kp.alloc _ _) | with_reducible exact (K1.out.trans (Kp.alloc _ _)).trans (Kp.alloc _ _) | with_reducible exact ((K1.out.trans (Kp.alloc _ _)).trans (Kp.alloc _ _)).trans (Kp.alloc _ _) | with_reducible exact K1.out.trans (Kp.drew _) | with_reducible exact K1.out.trans (Kp.drewN _ _))).mono ?_
  rintro e w2 ⟨rfl, kk⟩
  have K2 := Lib.hid ((show Kp W0 _ from (by first | with_reducible exact K1.out | with_reducible exact K1.out.trans (Kp.alloc _ _) | with_reducible exact (K1.out.trans (Kp.alloc _ _)).trans (Kp.alloc _ _) | with_reducible exact ((K1.out.trans (Kp.alloc _ _)).trans (Kp.alloc _ _)).trans (Kp.alloc _ _) | with_reducible exact K1.out.trans (Kp.drew _) | with_reducible exact K1.out.trans (Kp.drewN _ _))).trans kk)
  clear kk
  clear c0 c1 c2 c3 c4 c5
  obtain ⟨c0, c1, c2, c3, c4, c5⟩ := HB.out w2 K2.out
  go_wp2_with fail
  refine (TD.out _ (by first | with_reducible exact K2.out | with_reducible exact K2.out.trans (Kp.alloc _ _) | with_reducible exact (K2.out.trans (Kp.alloc _ _)).trans (Kp.alloc _ _) | with_reducible exact ((K2.out.trans (Kp.alloc _ _)).trans (Kp.alloc _ _)).trans (Kp.alloc _ _) | with_reducible exact K2.out.trans (Kp.drew _) | with_reducible exact K2.out.trans (Kp.drewN _ _))).mono ?_
  rintro e w3 ⟨va, vb, rfl, ok3, kk⟩
  have K3 := Lib.hid ((show Kp W0 _ from (by first | with_reducible exact K2.out | with_reducible exact K2.out.trans (Kp.alloc _ _) | with_reducible exact (K2.out.trans (Kp.alloc _ _)).trans (Kp.alloc _ _) | with_reducible exact ((K2.out.trans (Kp.alloc _ _)).trans (Kp.alloc _ _)).trans (Kp.alloc _ _) | with_reducible exact K2.out.trans (Kp.drew _) | with_reducible exact K2.out.trans (Kp.drewN _ _))).trans kk)
  obtain ⟨spg, ug, ag, bg⟩ := g
  obtain ⟨adg, cag, rfl⟩ := ok3.a.slice
  obtain ⟨bdg, cbg, rfl⟩ := ok3.b.slice
  simp only [leafV]
  simp only at ok3 NX PV SN RE
  clear kk
  clear c0 c1 c2 c3 c4 c5
  obtain ⟨c0, c1, c2, c3, c4, c5⟩ := HB.out w3 K3.out
  obtain ⟨w4, hV⟩ : ∃ V, V = w3.alloc (.cells #[.bool spg, .int .i64 ug, .slice adg ag.length cag, .slice bdg bg.length cbg] 24) := ⟨_, rfl⟩
  have ka : Kp w3 w4 := by rw [hV]; exact Kp.alloc _ _
  have hgq : w4.heap[w3.heap.size]? = some (.cells #[.bool spg, .int .i64 ug, .slice adg ag.length cag, .slice bdg bg.length cbg] 24 (0, 0)) := by rw [hV]; exact heap_at _ _ _ rfl
  have q0 : w4.cell? ⟨w3.heap.size, 0, none⟩ = some (.bool spg) := by simp [World.cell?, hgq]
  have q1 : w4.cell? ⟨w3.heap.size, 1, none⟩ = some (.int .i64 ug) := by simp [World.cell?, hgq]
  have q2 : w4.cell? ⟨w3.heap.size, 2, none⟩ = some (.slice adg ag.length cag) := by simp [World.cell?, hgq]
  have q3 : w4.cell? ⟨w3.heap.size, 3, none⟩ = some (.slice bdg bg.length cbg) := by simp [World.cell?, hgq]
  have HB2 := Lib.hid (fun w1 (k : Kp w4 w1) => show w1.cell? ⟨w.heap.size, 0, none⟩ = some (.bool spf) ∧ w1.cell? ⟨w.heap.size, 1, none⟩ = some (.int .i64 uf) ∧ w1.cell? ⟨w.heap.size, 2, none⟩ = some (.slice adf af.length caf) ∧ w1.cell? ⟨w.heap.size, 3, none⟩ = some (.slice bdf bf.length cbf) ∧ w1.cell? ⟨w.heap.size + 1, 0, none⟩ = some (.int .i64 pS) ∧ w1.cell? ⟨w.heap.size + 1, 1, none⟩ = some (.int .i64 pE) ∧ w1.cell? ⟨w3.heap.size, 0, none⟩ = some (.bool spg) ∧ w1.cell? ⟨w3.heap.size, 1, none⟩ = some (.int .i64 ug) ∧ w1.cell? ⟨w3.heap.size, 2, none⟩ = some (.slice adg ag.length cag) ∧ w1.cell? ⟨w3.heap.size, 3, none⟩ = some (.slice bdg bg.length cbg) from ⟨(HB.out w1 (K3.out.trans (ka.trans k))).1, (HB.out w1 (K3.out.trans (ka.trans k))).2.1, (HB.out w1 (K3.out.trans (ka.trans k))).2.2.1, (HB.out w1 (K3.out.trans (ka.trans k))).2.2.2.1, (HB.out w1 (K3.out.trans (ka.trans k))).2.2.2.2.1, (HB.out w1 (K3.out.trans (ka.trans k))).2.2.2.2.2, cell_up k q0, cell_up k q1, cell_up k q2, cell_up k q3⟩)
  have K01 := Lib.hid (K00.out.trans (K3.out.trans ka))
  have OKG := Lib.hid (ok3.kp ka)
  have TV := Lib.hid (T.kp K01.out)
  have XS := Lib.hid (fun w1 (kk : Kp w4 w1) => GS.out _ _ w1 (OKG.out.kp kk) (TV.out.kp kk))
  have XH := Lib.hid (fun w1 (kk : Kp w4 w1) => GH.out _ _ w1 (OKG.out.kp kk) (TV.out.kp kk))
  have XT := Lib.hid (fun w1 (kk : Kp w4 w1) => GT.out _ _ w1 (OKG.out.kp kk) (TV.out.kp kk))
  have XP := Lib.hid (fun w1 (kk : Kp w4 w1) => GP.out _ _ w1 (OKG.out.kp kk) (TV.out.kp kk))
  have YH := Lib.hid (fun w1 (kk : Kp w4 w1) => RH.out w1 (K01.out.trans kk))
  have YE := Lib.hid (fun w1 (kk : Kp w4 w1) => RE.out w1 (K01.out.trans kk))
  have YP := Lib.hid (fun w1 (kk : Kp w4 w1) => RP.out w1 (K01.out.trans kk))
  have RA := Lib.hid OKG.out.a
  have RB := Lib.hid OKG.out.b
  have hla : ag.length ≤ 1000 := OKG.out.na
  have hlb : bg.length ≤ 1000 := OKG.out.nb
  have SG := Lib.hid (fun va vb w1 (ok : LeafOk w1 ⟨spg, ug, ag, bg⟩ va vb) (kk : Kp w4 w1) => same14_yes _ va vb _ _ w1 ok (OKG.out.kp kk))
  have ASB := Lib.hid (fun w1 (kk : Kp w4 w1) n h1 h2 => next_of _ _ _ bg n w1 (asS_sane _ bg w1 (OKG.out.b.kp kk) OKG.out.ib SN.out.2) SN.out.2 (by omega) h1 h2)
  have ASA := Lib.hid (fun w1 (kk : Kp w4 w1) n h1 h2 => prev_of _ _ _ ag n w1 (asS_sane _ ag w1 (OKG.out.a.kp kk) OKG.out.ia SN.out.1) SN.out.1 (by omega) h1 h2)
  have IA := Lib.hid OKG.out.ia
  have IB := Lib.hid OKG.out.ib
  clear ok3 GS GH GT GP RH RE RP RT T OKG TV
  simp only [leafV] at XS XH XT XP SG
  clear HB K00 hgq c0 c1 c2 c3 c4 c5 q0 q1 q2 q3
  have HB := HB2
  have K00 := K01
  clear HB2 K01
  have K4 := Lib.hid (Kp.refl w4)
  have HV4 := Lib.hid hV
  clear hV ka
  go_wp2_with fail
  rw [← HV4.out]
  obtain ⟨c0, c1, c2, c3, c4, c5, c6, c7, c8, c9⟩ := HB.out w4 (Kp.refl _)
  have eb : (hb != hb) = false := by simp
  have e0 : ((ag.length : Int) == 0) = decide (ag.length = 0) := len_zero _
  generalize decide (ag.length = 0) = q0 at *
  have eq : (q0 != q0) = false := by simp
  have KS := Lib.hid (fun w' (kq : Kp w4 w') => show w'.cell? ⟨w.heap.size, 0, none⟩ = some (.bool spf) ∧ w'.cell? ⟨w.heap.size, 1, none⟩ = some (.int .i64 uf) ∧ w'.cell? ⟨w.heap.size, 2, none⟩ = some (.slice adf af.length caf) ∧ w'.cell? ⟨w.heap.size, 3, none⟩ = some (.slice bdf bf.length cbf) ∧ w'.cell? ⟨w.heap.size + 1, 0, none⟩ = some (.int .i64 pS) ∧ w'.cell? ⟨w.heap.size + 1, 1, none⟩ = some (.int .i64 pE) ∧ w'.cell? ⟨w3.heap.size, 0, none⟩ = some (.bool spg) ∧ w'.cell? ⟨w3.heap.size, 1, none⟩ = some (.int .i64 ug) ∧ w'.cell? ⟨w3.heap.size, 2, none⟩ = some (.slice adg ag.length cag) ∧ w'.cell? ⟨w3.heap.size, 3, none⟩ = some (.slice bdg bg.length cbg) ∧ Kp w4 w' from ⟨(HB.out w' (K4.out.trans kq)).1, (HB.out w' (K4.out.trans kq)).2.1, (HB.out w' (K4.out.trans kq)).2.2.1, (HB.out w' (K4.out.trans kq)).2.2.2.1, (HB.out w' (K4.out.trans kq)).2.2.2.2.1, (HB.out w' (K4.out.trans kq)).2.2.2.2.2.1, (HB.out w' (K4.out.trans kq)).2.2.2.2.2.2.1, (HB.out w' (K4.out.trans kq)).2.2.2.2.2.2.2.1, (HB.out w' (K4.out.trans kq)).2.2.2.2.2.2.2.2.1, (HB.out w' (K4.out.trans kq)).2.2.2.2.2.2.2.2.2, kq⟩)
  go_wp2_with fail
  refine wp_region_held_drew (S := fun w' => w'.cell? ⟨w.heap.size, 0, none⟩ = some (.bool spf) ∧ w'.cell? ⟨w.heap.size, 1, none⟩ = some (.int .i64 uf) ∧ w'.cell? ⟨w.heap.size, 2, none⟩ = some (.slice adf af.length caf) ∧ w'.cell? ⟨w.heap.size, 3, none⟩ = some (.slice bdf bf.length cbf) ∧ w'.cell? ⟨w.heap.size + 1, 0, none⟩ = some (.int .i64 pS) ∧ w'.cell? ⟨w.heap.size + 1, 1, none⟩ = some (.int .i64 pE) ∧ w'.cell? ⟨w3.heap.size, 0, none⟩ = some (.bool spg) ∧ w'.cell? ⟨w3.heap.size, 1, none⟩ = some (.int .i64 ug) ∧ w'.cell? ⟨w3.heap.size, 2, none⟩ = some (.slice adg ag.length cag) ∧ w'.cell? ⟨w3.heap.size, 3, none⟩ = some (.slice bdg bg.length cbg) ∧ Kp w4 w') (by kernel_rfl) ?_ (fun hHeld0 => ?_)
  · (try dsimp only); exact KS.out _ (by first | assumption | exact Kp.drew _)
  refine tkW (v := ?_) 0 tA0 rfl (by kernel_rfl) (by kernel_rfl) (by kernel_rfl) (fun _ _ _ h => h) (by rfl) ?_ (by assumption) ?_
  rotate_left
  · intro w hSw; (try dsimp only at hSw); go_simp; (try with_reducible rfl)
  (try simp only [Act.put, tA0, List.setIfInBounds_toArray, List.set_cons_zero, List.set_cons_succ])
  refine tkE 1 tA1 rfl (by kernel_rfl) (fun K hK => ?_)
  go_simp
  (refine (XS.out _ (K4.out.trans (by first | assumption | exact Kp.drew _))).mono ?_; rintro e w' ⟨rfl, k1⟩; have k2 := Kp.trans (show Kp w4 _ from (by first | assumption | exact Kp.drew _)) k1; clear k1)
  (try go_wp2_with fail)
  refine hK.out _ _ ?_ (fun hHeld1 => ?_)
  · (try dsimp only); exact KS.out _ (by first | assumption | exact Kp.drew _)
  clear hK K hHeld0
  (try simp only [Act.put, tA1, List.setIfInBounds_toArray, List.set_cons_zero, List.set_cons_succ])
  refine tkW (v := ?_) 2 tA2 rfl (by kernel_rfl) (by kernel_rfl) (by kernel_rfl) (fun _ _ _ h => h) (by rfl) ?_ (by assumption) ?_
  rotate_left
  · intro w hSw; (try dsimp only at hSw); go_simp; (try with_reducible rfl)
  (try simp only [Act.put, tA2, List.setIfInBounds_toArray, List.set_cons_zero, List.set_cons_succ])
  refine tkW (v := ?_) 3 tA3 rfl (by kernel_rfl) (by kernel_rfl) (by kernel_rfl) (fun _ _ _ h => h) (by rfl) ?_ (by assumption) ?_
  rotate_left
  · intro w hSw; (try dsimp only at hSw); go_simp; (try with_reducible rfl)
  (try simp only [Act.put, tA3, List.setIfInBounds_toArray, List.set_cons_zero, List.set_cons_succ])
  refine tkW (v := ?_) 4 tA4 rfl (by kernel_rfl) (by kernel_rfl) (by kernel_rfl) (fun _ _ _ h => h) (by rfl) ?_ (by assumption) ?_
  rotate_left
  · intro w hSw; (try dsimp only at hSw); go_simp; (try with_reducible rfl)
  (try simp only [Act.put, tA4, List.setIfInBounds_toArray, List.set_cons_zero, List.set_cons_succ])
  refine tkW (v := ?_) 5 tA5 rfl (by kernel_rfl) (by kernel_rfl) (by kernel_rfl) (fun _ _ _ h => h) (by rfl) ?_ (by assumption) ?_
  rotate_left
  · intro w hSw; (try dsimp only at hSw); go_simp; (try with_reducible rfl)
  (try simp only [Act.put, tA5, List.setIfInBounds_toArray, List.set_cons_zero, List.set_cons_succ])
  refine tkW (v := ?_) 7 tA7 rfl (by kernel_rfl) (by kernel_rfl) (by kernel_rfl) (fun _ _ _ h => h) (by rfl) ?_ (by assumption) ?_
  rotate_left
  · intro w hSw; (try dsimp only at hSw); go_simp; (try with_reducible rfl)
  (try simp only [Act.put, tA7, List.setIfInBounds_toArray, List.set_cons_zero, List.set_cons_succ])
  refine tkW (v := ?_) 8 tA8 rfl (by kernel_rfl) (by kernel_rfl) (by kernel_rfl) (fun _ _ _ h => h) (by rfl) ?_ (by assumption) ?_
  rotate_left
  · intro w hSw; (try dsimp only at hSw); go_simp; (try with_reducible rfl)
  (try simp only [Act.put, tA8, List.setIfInBounds_toArray, List.set_cons_zero, List.set_cons_succ])
  refine tkE 6 tA6 rfl (by kernel_rfl) (fun K hK => ?_)
  go_simp
  (refine (XH.out _ (K4.out.trans (by first | assumption | exact Kp.drew _))).mono ?_; rintro e w' ⟨rfl, k1⟩; have k2 := Kp.trans (show Kp w4 _ from (by first | assumption | exact Kp.drew _)) k1; clear k1)
  (try go_wp2_with fail)
  refine hK.out _ _ ?_ (fun hHeld2 => ?_)
  · (try dsimp only); exact KS.out _ (by first | assumption | exact Kp.drew _)
  clear hK K hHeld1
  (try simp only [Act.put, tA6, List.setIfInBounds_toArray, List.set_cons_zero, List.set_cons_succ])
  refine tkE 9 tA9 rfl (by kernel_rfl) (fun K hK => ?_)
  go_simp
  (refine (YH.out _ (K4.out.trans (by first | assumption | exact Kp.drew _))).mono ?_; rintro e w' ⟨rfl, k1⟩; have k2 := Kp.trans (show Kp w4 _ from (by first | assumption | exact Kp.drew _)) k1; clear k1)
  (try go_wp2_with fail)
  refine hK.out _ _ ?_ (fun hHeld3 => ?_)
  · (try dsimp only); exact KS.out _ (by first | assumption | exact Kp.drew _)
  clear hK K hHeld2
  (try simp only [Act.put, tA9, List.setIfInBounds_toArray, List.set_cons_zero, List.set_cons_succ])
  refine tkW (v := ?_) 10 tA10 rfl (by kernel_rfl) (by kernel_rfl) (by kernel_rfl) (fun _ _ _ h => h) (by rfl) ?_ (by assumption) ?_
  rotate_left
  · intro w hSw; (try dsimp only at hSw); go_simp; (try with_reducible rfl)
  (try simp only [Act.put, tA10, List.setIfInBounds_toArray, List.set_cons_zero, List.set_cons_succ])
  refine tkW (v := ?_) 11 tA11 rfl (by kernel_rfl) (by kernel_rfl) (by kernel_rfl) (fun _ _ _ h => h) (by rfl) ?_ (by assumption) ?_
  rotate_left
  · intro w hSw; (try dsimp only at hSw); go_simp; (try with_reducible rfl)
  (try simp only [Act.put, tA11, List.setIfInBounds_toArray, List.set_cons_zero, List.set_cons_succ])
  refine tkW (v := ?_) 12 tA12 rfl (by kernel_rfl) (by kernel_rfl) (by kernel_rfl) (fun _ _ _ h => h) (by rfl) ?_ (by assumption) ?_
  rotate_left
  · intro w hSw; (try dsimp only at hSw); go_simp; (try with_reducible rfl)
  (try simp only [Act.put, tA12, List.setIfInBounds_toArray, List.set_cons_zero, List.set_cons_succ])
  refine tkW (v := ?_) 13 tA13 rfl (by kernel_rfl) (by kernel_rfl) (by kernel_rfl) (fun _ _ _ h => h) (by rfl) ?_ (by assumption) ?_
  rotate_left
  · intro w hSw; (try dsimp only at hSw); go_simp; (try with_reducible rfl)
  (try simp only [Act.put, tA13, List.setIfInBounds_toArray, List.set_cons_zero, List.set_cons_succ])
  refine tkW (v := ?_) 15 tA15 rfl (by kernel_rfl) (by kernel_rfl) (by kernel_rfl) (fun _ _ _ h => h) (by rfl) ?_ (by assumption) ?_
  rotate_left
  · intro w hSw; (try dsimp only at hSw); go_simp; (try with_reducible rfl)
  (try simp only [Act.put, tA15, List.setIfInBounds_toArray, List.set_cons_zero, List.set_cons_succ])
  refine tkE 14 tA14 rfl (by kernel_rfl) (fun K hK => ?_)
  go_simp
  (refine (XT.out _ (K4.out.trans (by first | assumption | exact Kp.drew _))).mono ?_; rintro e w' ⟨ta, tb, rfl, okt, k1⟩; have k2 := Kp.trans (show Kp w4 _ from (by first | assumption | exact Kp.drew _)) k1; clear k1)
  (try go_wp2_with fail)
  refine hK.out _ _ ?_ (fun hHeld4 => ?_)
  · (try dsimp only); exact KS.out _ (by first | assumption | exact Kp.drew _)
  clear hK K hHeld3
  (try simp only [Act.put, tA14, List.setIfInBounds_toArray, List.set_cons_zero, List.set_cons_succ])
  refine tkE 16 tA16 rfl (by kernel_rfl) (fun K hK => ?_)
  go_simp
  (refine (SG.out _ _ _ okt (K4.out.trans (by first | assumption | exact Kp.drew _))).mono ?_; rintro e w' ⟨rfl, k1⟩; have k2 := Kp.trans (show Kp w4 _ from (by first | assumption | exact Kp.drew _)) k1; clear k1)
  (try go_wp2_with fail)
  refine hK.out _ _ ?_ (fun hHeld5 => ?_)
  · (try dsimp only); exact KS.out _ (by first | assumption | exact Kp.drew _)
  clear hK K hHeld4
  (try simp only [Act.put, tA16, List.setIfInBounds_toArray, List.set_cons_zero, List.set_cons_succ])
  refine tkW (v := ?_) 17 tA17 rfl (by kernel_rfl) (by kernel_rfl) (by kernel_rfl) (fun _ _ _ h => h) (by rfl) ?_ (by assumption) ?_
  rotate_left
  · intro w hSw; (try dsimp only at hSw); go_simp; (try with_reducible rfl)
  (try simp only [Act.put, tA17, List.setIfInBounds_toArray, List.set_cons_zero, List.set_cons_succ])
  refine tkW (v := ?_) 18 tA18 rfl (by kernel_rfl) (by kernel_rfl) (by kernel_rfl) (fun _ _ _ h => h) (by rfl) ?_ (by assumption) ?_
  rotate_left
  · intro w hSw; (try dsimp only at hSw); go_simp; (try with_reducible rfl)
  (try simp only [Act.put, tA18, List.setIfInBounds_toArray, List.set_cons_zero, List.set_cons_succ])
  refine tkW (v := ?_) 19 tA19 rfl (by kernel_rfl) (by kernel_rfl) (by kernel_rfl) (fun _ _ _ h => h) (by rfl) ?_ (by assumption) ?_
  rotate_left
  · intro w hSw; (try dsimp only at hSw); go_simp; (try with_reducible rfl)
  (try simp only [Act.put, tA19, List.setIfInBounds_toArray, List.set_cons_zero, List.set_cons_succ])
  refine tkW (v := ?_) 20 tA20 rfl (by kernel_rfl) (by kernel_rfl) (by kernel_rfl) (fun _ _ _ h => h) (by rfl) ?_ (by assumption) ?_
  rotate_left
  · intro w hSw; (try dsimp only at hSw); go_simp; (try with_reducible rfl)
  (try simp only [Act.put, tA20, List.setIfInBounds_toArray, List.set_cons_zero, List.set_cons_succ])
  refine tkW (v := ?_) 22 tA22 rfl (by kernel_rfl) (by kernel_rfl) (by kernel_rfl) (fun _ _ _ h => h) (by rfl) ?_ (by assumption) ?_
  rotate_left
  · intro w hSw; (try dsimp only at hSw); go_simp; (try with_reducible rfl)
  (try simp only [Act.put, tA22, List.setIfInBounds_toArray, List.set_cons_zero, List.set_cons_succ])
  refine tkW (v := ?_) 23 tA23 rfl (by kernel_rfl) (by kernel_rfl) (by kernel_rfl) (fun _ _ _ h => h) (by rfl) ?_ (by assumption) ?_
  rotate_left
  · intro w hSw; (try dsimp only at hSw); go_simp; (try with_reducible rfl)
  (try simp only [Act.put, tA23, List.setIfInBounds_toArray, List.set_cons_zero, List.set_cons_succ])
  refine tkW (v := ?_) 24 tA24 rfl (by kernel_rfl) (by kernel_rfl) (by kernel_rfl) (fun _ _ _ h => h) (by rfl) ?_ (by assumption) ?_
  rotate_left
  · intro w hSw; (try dsimp only at hSw); go_simp; (try with_reducible rfl)
  (try simp only [Act.put, tA24, List.setIfInBounds_toArray, List.set_cons_zero, List.set_cons_succ])
  refine tkW (v := ?_) 25 tA25 rfl (by kernel_rfl) (by kernel_rfl) (by kernel_rfl) (fun _ _ _ h => h) (by rfl) ?_ (by assumption) ?_
  rotate_left
  · intro w hSw; (try dsimp only at hSw); go_simp; (try with_reducible rfl)
  (try simp only [Act.put, tA25, List.setIfInBounds_toArray, List.set_cons_zero, List.set_cons_succ])
  refine tkE 21 tA21 rfl (by kernel_rfl) (fun K hK => ?_)
  go_simp
  (refine (YE.out _ (K4.out.trans (by first | assumption | exact Kp.drew _))).mono ?_; rintro e w' ⟨rfl, k1⟩; have k2 := Kp.trans (show Kp w4 _ from (by first | assumption | exact Kp.drew _)) k1; clear k1)
  (try go_wp2_with fail)
  refine hK.out _ _ ?_ (fun hHeld6 => ?_)
  · (try dsimp only); exact KS.out _ (by first | assumption | exact Kp.drew _)
  clear hK K hHeld5
  (try simp only [Act.put, tA21, List.setIfInBounds_toArray, List.set_cons_zero, List.set_cons_succ])
  refine tkW (v := ?_) 26 tA26 rfl (by kernel_rfl) (by kernel_rfl) (by kernel_rfl) (fun _ _ _ h => h) (by rfl) ?_ (by assumption) ?_
  rotate_left
  · intro w hSw; (try dsimp only at hSw); go_simp; (try with_reducible rfl)
  (try simp only [Act.put, tA26, List.setIfInBounds_toArray, List.set_cons_zero, List.set_cons_succ])
  refine tkW (v := ?_) 27 tA27 rfl (by kernel_rfl) (by kernel_rfl) (by kernel_rfl) (fun _ _ _ h => h) (by rfl) ?_ (by assumption) ?_
  rotate_left
  · intro w hSw; (try dsimp only at hSw); go_simp; (try with_reducible rfl)
  (try simp only [Act.put, tA27, List.setIfInBounds_toArray, List.set_cons_zero, List.set_cons_succ])
  refine wpAnyH_done (by kernel_rfl) ?_ _
  obtain ⟨wz, hwz⟩ : ∃ x : World, x = w' := ⟨_, rfl⟩
  subst hwz
  have K5 := Lib.hid (show Kp w4 _ from (by first | assumption | exact Kp.drew _))
  clear KS c0 c1 c2 c3 c4 c5 c6 c7 c8 c9
  cases spg with
  | true =>
    go_wp2
    go_loopw [7] (fun i wr => ∃ k : Nat, k ≤ ag.length ∧ i = .int .i64 k ∧ Hid (Kp w4 wr)) (fun i _ => ag.length - (intOf i).toNat)
    case atStart => exact ⟨0, Nat.zero_le _, rfl, K5⟩
    case round =>
      obtain ⟨k, hk, rfl, J⟩ := hrel
      obtain ⟨c0, c1, c2, c3, c4, c5, c6, c7, c8, c9⟩ := HB.out wr J.out
      by_cases hlt : k < ag.length
      · rcases RA.out.kp J.out with ⟨_, _, _, e⟩ | ⟨b0, off, cap, ev, hc, hm, hx⟩
        · rw [e] at hlt; simp at hlt
        cases ev
        obtain ⟨d1, d2⟩ := hx k hlt
        have G := NX.out (by first | rfl | trivial) k hlt
        have ii := IA.out.at_ hlt
        obtain ⟨x, y, ee⟩ : ∃ x y, at_ ag k = (x, y) := ⟨_, _, rfl⟩
        rw [ee] at d1 d2 G ii
        simp only at d1 d2 G ii
        obtain ⟨i1, i2, i3, i4⟩ := ii
        have X1 := Lib.hid (fun w1 kk => ASB.out w1 kk y (by omega) (by omega))
        rw [G] at X1
        generalize (nxt bg y).1 = r at *
        have z1 : (k : Int) < (ag.length : Int) := by omega
        have z2 : (0 : Int) ≤ (k : Int) := by omega
        clear hx hc hm ee G
        have KS := Lib.hid (fun w' (kq : Kp wr w') => show w'.cell? ⟨w.heap.size, 0, none⟩ = some (.bool spf) ∧ w'.cell? ⟨w.heap.size, 1, none⟩ = some (.int .i64 uf) ∧ w'.cell? ⟨w.heap.size, 2, none⟩ = some (.slice adf af.length caf) ∧ w'.cell? ⟨w.heap.size, 3, none⟩ = some (.slice bdf bf.length cbf) ∧ w'.cell? ⟨w.heap.size + 1, 0, none⟩ = some (.int .i64 pS) ∧ w'.cell? ⟨w.heap.size + 1, 1, none⟩ = some (.int .i64 pE) ∧ w'.cell? ⟨w3.heap.size, 0, none⟩ = some (.bool true) ∧ w'.cell? ⟨w3.heap.size, 1, none⟩ = some (.int .i64 ug) ∧ w'.cell? ⟨w3.heap.size, 2, none⟩ = some (.slice (some ⟨b0, off, none⟩) ag.length cag) ∧ w'.cell? ⟨w3.heap.size, 3, none⟩ = some (.slice bdg bg.length cbg) ∧ w'.cell? ⟨b0, off + k * 2 + 1, none⟩ = some (.int .i64 y) ∧ Kp wr w' from ⟨(HB.out w' (J.out.trans kq)).1, (HB.out w' (J.out.trans kq)).2.1, (HB.out w' (J.out.trans kq)).2.2.1, (HB.out w' (J.out.trans kq)).2.2.2.1, (HB.out w' (J.out.trans kq)).2.2.2.2.1, (HB.out w' (J.out.trans kq)).2.2.2.2.2.1, (HB.out w' (J.out.trans kq)).2.2.2.2.2.2.1, (HB.out w' (J.out.trans kq)).2.2.2.2.2.2.2.1, (HB.out w' (J.out.trans kq)).2.2.2.2.2.2.2.2.1, (HB.out w' (J.out.trans kq)).2.2.2.2.2.2.2.2.2, cell_up kq d2, kq⟩)
        go_wp2_with fail
        refine wp_region_held_drew (S := fun w' => w'.cell? ⟨w.heap.size, 0, none⟩ = some (.bool spf) ∧ w'.cell? ⟨w.heap.size, 1, none⟩ = some (.int .i64 uf) ∧ w'.cell? ⟨w.heap.size, 2, none⟩ = some (.slice adf af.length caf) ∧ w'.cell? ⟨w.heap.size, 3, none⟩ = some (.slice bdf bf.length cbf) ∧ w'.cell? ⟨w.heap.size + 1, 0, none⟩ = some (.int .i64 pS) ∧ w'.cell? ⟨w.heap.size + 1, 1, none⟩ = some (.int .i64 pE) ∧ w'.cell? ⟨w3.heap.size, 0, none⟩ = some (.bool true) ∧ w'.cell? ⟨w3.heap.size, 1, none⟩ = some (.int .i64 ug) ∧ w'.cell? ⟨w3.heap.size, 2, none⟩ = some (.slice (some ⟨b0, off, none⟩) ag.length cag) ∧ w'.cell? ⟨w3.heap.size, 3, none⟩ = some (.slice bdg bg.length cbg) ∧ w'.cell? ⟨b0, off + k * 2 + 1, none⟩ = some (.int .i64 y) ∧ Kp wr w') (by kernel_rfl) ?_ (fun hHeld0 => ?_)
        · (try dsimp only); exact KS.out _ (by first | assumption | exact Kp.drew _)
        refine tkW (v := ?_) 0 tB0 rfl (by kernel_rfl) (by kernel_rfl) (by kernel_rfl) (fun _ _ _ h => h) (by rfl) ?_ (by assumption) ?_
        rotate_left
        · intro w hSw; (try dsimp only at hSw); go_simp; (try with_reducible rfl)
        (try simp only [Act.put, tB0, List.setIfInBounds_toArray, List.set_cons_zero, List.set_cons_succ])
        refine tkW (v := ?_) 1 tB1 rfl (by kernel_rfl) (by kernel_rfl) (by kernel_rfl) (fun _ _ _ h => h) (by rfl) ?_ (by assumption) ?_
        rotate_left
        · intro w hSw; (try dsimp only at hSw); go_simp; (try with_reducible rfl)
        (try simp only [Act.put, tB1, List.setIfInBounds_toArray, List.set_cons_zero, List.set_cons_succ])
        refine tkW (v := ?_) 2 tB2 rfl (by kernel_rfl) (by kernel_rfl) (by kernel_rfl) (fun _ _ _ h => h) (by rfl) ?_ (by assumption) ?_
        rotate_left
        · intro w hSw; (try dsimp only at hSw); go_simp; (try with_reducible rfl)
        (try simp only [Act.put, tB2, List.setIfInBounds_toArray, List.set_cons_zero, List.set_cons_succ])
        refine tkW (v := ?_) 3 tB3 rfl (by kernel_rfl) (by kernel_rfl) (by kernel_rfl) (fun _ _ _ h => h) (by rfl) ?_ (by assumption) ?_
        rotate_left
        · intro w hSw; (try dsimp only at hSw); go_simp; (try with_reducible rfl)
        (try simp only [Act.put, tB3, List.setIfInBounds_toArray, List.set_cons_zero, List.set_cons_succ])
        refine tkW (v := ?_) 4 tB4 rfl (by kernel_rfl) (by kernel_rfl) (by kernel_rfl) (fun _ _ _ h => h) (by rfl) ?_ (by assumption) ?_
        rotate_left
        · intro w hSw; (try dsimp only at hSw); go_simp; (try with_reducible rfl)
        (try simp only [Act.put, tB4, List.setIfInBounds_toArray, List.set_cons_zero, List.set_cons_succ])
        refine tkW (v := ?_) 5 tB5 rfl (by kernel_rfl) (by kernel_rfl) (by kernel_rfl) (fun _ _ _ h => h) (by rfl) ?_ (by assumption) ?_
        rotate_left
        · intro w hSw; (try dsimp only at hSw); go_simp; (try with_reducible rfl)
        (try simp only [Act.put, tB5, List.setIfInBounds_toArray, List.set_cons_zero, List.set_cons_succ])
        refine tkW (v := ?_) 6 tB6 rfl (by kernel_rfl) (by kernel_rfl) (by kernel_rfl) (fun _ _ _ h => h) (by rfl) ?_ (by assumption) ?_
        rotate_left
        · intro w hSw; (try dsimp only at hSw); go_simp; (try with_reducible rfl)
        (try simp only [Act.put, tB6, List.setIfInBounds_toArray, List.set_cons_zero, List.set_cons_succ])
        refine tkW (v := ?_) 7 tB7 rfl (by kernel_rfl) (by kernel_rfl) (by kernel_rfl) (fun _ _ _ h => h) (by rfl) ?_ (by assumption) ?_
        rotate_left
        · intro w hSw; (try dsimp only at hSw); go_simp; (try with_reducible rfl)
        (try simp only [Act.put, tB7, List.setIfInBounds_toArray, List.set_cons_zero, List.set_cons_succ])
        refine tkE 8 tB8 rfl (by kernel_rfl) (fun K hK => ?_)
        go_simp
        (refine (X1.out _ (J.out.trans (by first | assumption | exact Kp.drew _))).mono ?_; rintro e w' ⟨rfl, k1⟩; have k2 := Kp.trans (show Kp wr _ from (by first | assumption | exact Kp.drew _)) k1; clear k1)
        (try go_wp2_with fail)
        refine hK.out _ _ ?_ (fun hHeld1 => ?_)
        · (try dsimp only); exact KS.out _ (by first | assumption | exact Kp.drew _)
        clear hK K hHeld0
        (try simp only [Act.put, tB8, List.setIfInBounds_toArray, List.set_cons_zero, List.set_cons_succ])
        refine tkW (v := ?_) 9 tB9 rfl (by kernel_rfl) (by kernel_rfl) (by kernel_rfl) (fun _ _ _ h => h) (by rfl) ?_ (by assumption) ?_
        rotate_left
        · intro w hSw; (try dsimp only at hSw); go_simp; (try with_reducible rfl)
        (try simp only [Act.put, tB9, List.setIfInBounds_toArray, List.set_cons_zero, List.set_cons_succ])
        refine tkW (v := ?_) 10 tB10 rfl (by kernel_rfl) (by kernel_rfl) (by kernel_rfl) (fun _ _ _ h => h) (by rfl) ?_ (by assumption) ?_
        rotate_left
        · intro w hSw; (try dsimp only at hSw); go_simp; (try with_reducible rfl)
        (try simp only [Act.put, tB10, List.setIfInBounds_toArray, List.set_cons_zero, List.set_cons_succ])
        refine tkW (v := ?_) 11 tB11 rfl (by kernel_rfl) (by kernel_rfl) (by kernel_rfl) (fun _ _ _ h => h) (by rfl) ?_ (by assumption) ?_
        rotate_left
        · intro w hSw; (try dsimp only at hSw); go_simp; (try with_reducible rfl)
        (try simp only [Act.put, tB11, List.setIfInBounds_toArray, List.set_cons_zero, List.set_cons_succ])
        refine tkW (v := ?_) 12 tB12 rfl (by kernel_rfl) (by kernel_rfl) (by kernel_rfl) (fun _ _ _ h => h) (by rfl) ?_ (by assumption) ?_
        rotate_left
        · intro w hSw; (try dsimp only at hSw); go_simp; (try with_reducible rfl)
        (try simp only [Act.put, tB12, List.setIfInBounds_toArray, List.set_cons_zero, List.set_cons_succ])
        refine tkW (v := ?_) 13 tB13 rfl (by kernel_rfl) (by kernel_rfl) (by kernel_rfl) (fun _ _ _ h => h) (by rfl) ?_ (by assumption) ?_
        rotate_left
        · intro w hSw; (try dsimp only at hSw); go_simp; (try with_reducible rfl)
        (try simp only [Act.put, tB13, List.setIfInBounds_toArray, List.set_cons_zero, List.set_cons_succ])
        refine wpAnyH_done (by kernel_rfl) ?_ _
        have J9 := Lib.hid (J.out.trans (by first | assumption | exact Kp.drew _))
        go_wp2
        go_roundw
        case rel => exact ⟨k + 1, by omega, by go_num, J9⟩
        case measure => simp [intOf]; omega
      · obtain rfl : k = ag.length := by omega
        go_wp2
        go_loopw [10] (fun i wr => ∃ k : Nat, k ≤ bg.length ∧ i = .int .i64 k ∧ Hid (Kp w4 wr)) (fun i _ => bg.length - (intOf i).toNat)
        case atStart => exact ⟨0, Nat.zero_le _, rfl, J⟩
        case round =>
          obtain ⟨kb, hkb, rfl, JT⟩ := hrel
          obtain ⟨c0, c1, c2, c3, c4, c5, c6, c7, c8, c9⟩ := HB.out wr JT.out
          by_cases hlt : kb < bg.length
          · rcases RB.out.kp JT.out with ⟨_, _, _, e⟩ | ⟨b0, off, cap, ev, hc, hm, hx⟩
            · rw [e] at hlt; simp at hlt
            cases ev
            obtain ⟨d1, d2⟩ := hx kb hlt
            have G := PV.out (by first | rfl | trivial) kb hlt
            have ii := IB.out.at_ hlt
            obtain ⟨x, y, ee⟩ : ∃ x y, at_ bg kb = (x, y) := ⟨_, _, rfl⟩
            rw [ee] at d1 d2 G ii
            simp only at d1 d2 G ii
            obtain ⟨i1, i2, i3, i4⟩ := ii
            have X1 := Lib.hid (fun w1 kk => ASA.out w1 kk x (by omega) (by omega))
            rw [G] at X1
            generalize (prv ag x).1 = r at *
            have z1 : (kb : Int) < (bg.length : Int) := by omega
            have z2 : (0 : Int) ≤ (kb : Int) := by omega
            clear hx hc hm ee G
            have KS := Lib.hid (fun w' (kq : Kp wr w') => show w'.cell? ⟨w.heap.size, 0, none⟩ = some (.bool spf) ∧ w'.cell? ⟨w.heap.size, 1, none⟩ = some (.int .i64 uf) ∧ w'.cell? ⟨w.heap.size, 2, none⟩ = some (.slice adf af.length caf) ∧ w'.cell? ⟨w.heap.size, 3, none⟩ = some (.slice bdf bf.length cbf) ∧ w'.cell? ⟨w.heap.size + 1, 0, none⟩ = some (.int .i64 pS) ∧ w'.cell? ⟨w.heap.size + 1, 1, none⟩ = some (.int .i64 pE) ∧ w'.cell? ⟨w3.heap.size, 0, none⟩ = some (.bool true) ∧ w'.cell? ⟨w3.heap.size, 1, none⟩ = some (.int .i64 ug) ∧ w'.cell? ⟨w3.heap.size, 2, none⟩ = some (.slice adg ag.length cag) ∧ w'.cell? ⟨w3.heap.size, 3, none⟩ = some (.slice (some ⟨b0, off, none⟩) bg.length cbg) ∧ w'.cell? ⟨b0, off + kb * 2, none⟩ = some (.int .i64 x) ∧ Kp wr w' from ⟨(HB.out w' (JT.out.trans kq)).1, (HB.out w' (JT.out.trans kq)).2.1, (HB.out w' (JT.out.trans kq)).2.2.1, (HB.out w' (JT.out.trans kq)).2.2.2.1, (HB.out w' (JT.out.trans kq)).2.2.2.2.1, (HB.out w' (JT.out.trans kq)).2.2.2.2.2.1, (HB.out w' (JT.out.trans kq)).2.2.2.2.2.2.1, (HB.out w' (JT.out.trans kq)).2.2.2.2.2.2.2.1, (HB.out w' (JT.out.trans kq)).2.2.2.2.2.2.2.2.1, (HB.out w' (JT.out.trans kq)).2.2.2.2.2.2.2.2.2, cell_up kq d1, kq⟩)
            go_wp2_with fail
            refine wp_region_held_drew (S := fun w' => w'.cell? ⟨w.heap.size, 0, none⟩ = some (.bool spf) ∧ w'.cell? ⟨w.heap.size, 1, none⟩ = some (.int .i64 uf) ∧ w'.cell? ⟨w.heap.size, 2, none⟩ = some (.slice adf af.length caf) ∧ w'.cell? ⟨w.heap.size, 3, none⟩ = some (.slice bdf bf.length cbf) ∧ w'.cell? ⟨w.heap.size + 1, 0, none⟩ = some (.int .i64 pS) ∧ w'.cell? ⟨w.heap.size + 1, 1, none⟩ = some (.int .i64 pE) ∧ w'.cell? ⟨w3.heap.size, 0, none⟩ = some (.bool true) ∧ w'.cell? ⟨w3.heap.size, 1, none⟩ = some (.int .i64 ug) ∧ w'.cell? ⟨w3.heap.size, 2, none⟩ = some (.slice adg ag.length cag) ∧ w'.cell? ⟨w3.heap.size, 3, none⟩ = some (.slice (some ⟨b0, off, none⟩) bg.length cbg) ∧ w'.cell? ⟨b0, off + kb * 2, none⟩ = some (.int .i64 x) ∧ Kp wr w') (by kernel_rfl) ?_ (fun hHeld0 => ?_)
            · (try dsimp only); exact KS.out _ (by first | assumption | exact Kp.drew _)
            refine tkW (v := ?_) 0 tC0 rfl (by kernel_rfl) (by kernel_rfl) (by kernel_rfl) (fun _ _ _ h => h) (by rfl) ?_ (by assumption) ?_
            rotate_left
            · intro w hSw; (try dsimp only at hSw); go_simp; (try with_reducible rfl)
            (try simp only [Act.put, tC0, List.setIfInBounds_toArray, List.set_cons_zero, List.set_cons_succ])
            refine tkW (v := ?_) 1 tC1 rfl (by kernel_rfl) (by kernel_rfl) (by kernel_rfl) (fun _ _ _ h => h) (by rfl) ?_ (by assumption) ?_
            rotate_left
            · intro w hSw; (try dsimp only at hSw); go_simp; (try with_reducible rfl)
            (try simp only [Act.put, tC1, List.setIfInBounds_toArray, List.set_cons_zero, List.set_cons_succ])
            refine tkW (v := ?_) 2 tC2 rfl (by kernel_rfl) (by kernel_rfl) (by kernel_rfl) (fun _ _ _ h => h) (by rfl) ?_ (by assumption) ?_
            rotate_left
            · intro w hSw; (try dsimp only at hSw); go_simp; (try with_reducible rfl)
            (try simp only [Act.put, tC2, List.setIfInBounds_toArray, List.set_cons_zero, List.set_cons_succ])
            refine tkW (v := ?_) 3 tC3 rfl (by kernel_rfl) (by kernel_rfl) (by kernel_rfl) (fun _ _ _ h => h) (by rfl) ?_ (by assumption) ?_
            rotate_left
            · intro w hSw; (try dsimp only at hSw); go_simp; (try with_reducible rfl)
            (try simp only [Act.put, tC3, List.setIfInBounds_toArray, List.set_cons_zero, List.set_cons_succ])
            refine tkW (v := ?_) 4 tC4 rfl (by kernel_rfl) (by kernel_rfl) (by kernel_rfl) (fun _ _ _ h => h) (by rfl) ?_ (by assumption) ?_
            rotate_left
            · intro w hSw; (try dsimp only at hSw); go_simp; (try with_reducible rfl)
            (try simp only [Act.put, tC4, List.setIfInBounds_toArray, List.set_cons_zero, List.set_cons_succ])
            refine tkW (v := ?_) 5 tC5 rfl (by kernel_rfl) (by kernel_rfl) (by kernel_rfl) (fun _ _ _ h => h) (by rfl) ?_ (by assumption) ?_
            rotate_left
            · intro w hSw; (try dsimp only at hSw); go_simp; (try with_reducible rfl)
            (try simp only [Act.put, tC5, List.setIfInBounds_toArray, List.set_cons_zero, List.set_cons_succ])
            refine tkW (v := ?_) 6 tC6 rfl (by kernel_rfl) (by kernel_rfl) (by kernel_rfl) (fun _ _ _ h => h) (by rfl) ?_ (by assumption) ?_
            rotate_left
            · intro w hSw; (try dsimp only at hSw); go_simp; (try with_reducible rfl)
            (try simp only [Act.put, tC6, List.setIfInBounds_toArray, List.set_cons_zero, List.set_cons_succ])
            refine tkW (v := ?_) 7 tC7 rfl (by kernel_rfl) (by kernel_rfl) (by kernel_rfl) (fun _ _ _ h => h) (by rfl) ?_ (by assumption) ?_
            rotate_left
            · intro w hSw; (try dsimp only at hSw); go_simp; (try with_reducible rfl)
            (try simp only [Act.put, tC7, List.setIfInBounds_toArray, List.set_cons_zero, List.set_cons_succ])
            refine tkE 8 tC8 rfl (by kernel_rfl) (fun K hK => ?_)
            go_simp
            (refine (X1.out _ (JT.out.trans (by first | assumption | exact Kp.drew _))).mono ?_; rintro e w' ⟨rfl, k1⟩; have k2 := Kp.trans (show Kp wr _ from (by first | assumption | exact Kp.drew _)) k1; clear k1)
            (try go_wp2_with fail)
            refine hK.out _ _ ?_ (fun hHeld1 => ?_)
            · (try dsimp only); exact KS.out _ (by first | assumption | exact Kp.drew _)
            clear hK K hHeld0
            (try simp only [Act.put, tC8, List.setIfInBounds_toArray, List.set_cons_zero, List.set_cons_succ])
            refine tkW (v := ?_) 9 tC9 rfl (by kernel_rfl) (by kernel_rfl) (by kernel_rfl) (fun _ _ _ h => h) (by rfl) ?_ (by assumption) ?_
            rotate_left
            · intro w hSw; (try dsimp only at hSw); go_simp; (try with_reducible rfl)
            (try simp only [Act.put, tC9, List.setIfInBounds_toArray, List.set_cons_zero, List.set_cons_succ])
            refine tkW (v := ?_) 10 tC10 rfl (by kernel_rfl) (by kernel_rfl) (by kernel_rfl) (fun _ _ _ h => h) (by rfl) ?_ (by assumption) ?_
            rotate_left
            · intro w hSw; (try dsimp only at hSw); go_simp; (try with_reducible rfl)
            (try simp only [Act.put, tC10, List.setIfInBounds_toArray, List.set_cons_zero, List.set_cons_succ])
            refine tkW (v := ?_) 11 tC11 rfl (by kernel_rfl) (by kernel_rfl) (by kernel_rfl) (fun _ _ _ h => h) (by rfl) ?_ (by assumption) ?_
            rotate_left
            · intro w hSw; (try dsimp only at hSw); go_simp; (try with_reducible rfl)
            (try simp only [Act.put, tC11, List.setIfInBounds_toArray, List.set_cons_zero, List.set_cons_succ])
            refine tkW (v := ?_) 12 tC12 rfl (by kernel_rfl) (by kernel_rfl) (by kernel_rfl) (fun _ _ _ h => h) (by rfl) ?_ (by assumption) ?_
            rotate_left
            · intro w hSw; (try dsimp only at hSw); go_simp; (try with_reducible rfl)
            (try simp only [Act.put, tC12, List.setIfInBounds_toArray, List.set_cons_zero, List.set_cons_succ])
            refine tkW (v := ?_) 13 tC13 rfl (by kernel_rfl) (by kernel_rfl) (by kernel_rfl) (fun _ _ _ h => h) (by rfl) ?_ (by assumption) ?_
            rotate_left
            · intro w hSw; (try dsimp only at hSw); go_simp; (try with_reducible rfl)
            (try simp only [Act.put, tC13, List.setIfInBounds_toArray, List.set_cons_zero, List.set_cons_succ])
            refine wpAnyH_done (by kernel_rfl) ?_ _
            have J9 := Lib.hid (JT.out.trans (by first | assumption | exact Kp.drew _))
            go_wp2
            go_roundw
            case rel => exact ⟨kb + 1, by omega, by go_num, J9⟩
            case measure => simp [intOf]; omega
          · obtain rfl : kb = bg.length := by omega
            have KS := Lib.hid (fun w' (kq : Kp wr w') => show w'.cell? ⟨w.heap.size, 0, none⟩ = some (.bool spf) ∧ w'.cell? ⟨w.heap.size, 1, none⟩ = some (.int .i64 uf) ∧ w'.cell? ⟨w.heap.size, 2, none⟩ = some (.slice adf af.length caf) ∧ w'.cell? ⟨w.heap.size, 3, none⟩ = some (.slice bdf bf.length cbf) ∧ w'.cell? ⟨w.heap.size + 1, 0, none⟩ = some (.int .i64 pS) ∧ w'.cell? ⟨w.heap.size + 1, 1, none⟩ = some (.int .i64 pE) ∧ w'.cell? ⟨w3.heap.size, 0, none⟩ = some (.bool true) ∧ w'.cell? ⟨w3.heap.size, 1, none⟩ = some (.int .i64 ug) ∧ w'.cell? ⟨w3.heap.size, 2, none⟩ = some (.slice adg ag.length cag) ∧ w'.cell? ⟨w3.heap.size, 3, none⟩ = some (.slice bdg bg.length cbg) ∧ Kp wr w' from ⟨(HB.out w' (JT.out.trans kq)).1, (HB.out w' (JT.out.trans kq)).2.1, (HB.out w' (JT.out.trans kq)).2.2.1, (HB.out w' (JT.out.trans kq)).2.2.2.1, (HB.out w' (JT.out.trans kq)).2.2.2.2.1, (HB.out w' (JT.out.trans kq)).2.2.2.2.2.1, (HB.out w' (JT.out.trans kq)).2.2.2.2.2.2.1, (HB.out w' (JT.out.trans kq)).2.2.2.2.2.2.2.1, (HB.out w' (JT.out.trans kq)).2.2.2.2.2.2.2.2.1, (HB.out w' (JT.out.trans kq)).2.2.2.2.2.2.2.2.2, kq⟩)
            go_wp2_with fail
            refine wp_region_held_drew (S := fun w' => w'.cell? ⟨w.heap.size, 0, none⟩ = some (.bool spf) ∧ w'.cell? ⟨w.heap.size, 1, none⟩ = some (.int .i64 uf) ∧ w'.cell? ⟨w.heap.size, 2, none⟩ = some (.slice adf af.length caf) ∧ w'.cell? ⟨w.heap.size, 3, none⟩ = some (.slice bdf bf.length cbf) ∧ w'.cell? ⟨w.heap.size + 1, 0, none⟩ = some (.int .i64 pS) ∧ w'.cell? ⟨w.heap.size + 1, 1, none⟩ = some (.int .i64 pE) ∧ w'.cell? ⟨w3.heap.size, 0, none⟩ = some (.bool true) ∧ w'.cell? ⟨w3.heap.size, 1, none⟩ = some (.int .i64 ug) ∧ w'.cell? ⟨w3.heap.size, 2, none⟩ = some (.slice adg ag.length cag) ∧ w'.cell? ⟨w3.heap.size, 3, none⟩ = some (.slice bdg bg.length cbg) ∧ Kp wr w') (by kernel_rfl) ?_ (fun hHeld0 => ?_)
            · (try dsimp only); exact KS.out _ (by first | assumption | exact Kp.drew _)
            refine tkW (v := ?_) 0 tD0 rfl (by kernel_rfl) (by kernel_rfl) (by kernel_rfl) (fun _ _ _ h => h) (by rfl) ?_ (by assumption) ?_
            rotate_left
            · intro w hSw; (try dsimp only at hSw); go_simp; (try with_reducible rfl)
            (try simp only [Act.put, tD0, List.setIfInBounds_toArray, List.set_cons_zero, List.set_cons_succ])
            refine tkW (v := ?_) 1 tD1 rfl (by kernel_rfl) (by kernel_rfl) (by kernel_rfl) (fun _ _ _ h => h) (by rfl) ?_ (by assumption) ?_
            rotate_left
            · intro w hSw; (try dsimp only at hSw); go_simp; (try with_reducible rfl)
            (try simp only [Act.put, tD1, List.setIfInBounds_toArray, List.set_cons_zero, List.set_cons_succ])
            refine tkW (v := ?_) 2 tD2 rfl (by kernel_rfl) (by kernel_rfl) (by kernel_rfl) (fun _ _ _ h => h) (by rfl) ?_ (by assumption) ?_
            rotate_left
            · intro w hSw; (try dsimp only at hSw); go_simp; (try with_reducible rfl)
            (try simp only [Act.put, tD2, List.setIfInBounds_toArray, List.set_cons_zero, List.set_cons_succ])
            refine tkW (v := ?_) 4 tD4 rfl (by kernel_rfl) (by kernel_rfl) (by kernel_rfl) (fun _ _ _ h => h) (by rfl) ?_ (by assumption) ?_
            rotate_left
            · intro w hSw; (try dsimp only at hSw); go_simp; (try with_reducible rfl)
            (try simp only [Act.put, tD4, List.setIfInBounds_toArray, List.set_cons_zero, List.set_cons_succ])
            refine tkE 3 tD3 rfl (by kernel_rfl) (fun K hK => ?_)
            go_simp
            (refine (XP.out _ (JT.out.trans (by first | assumption | exact Kp.drew _))).mono ?_; rintro e w' ⟨v1, rfl, own1, k1⟩; obtain ⟨ad1, cp1, rfl⟩ := own_slice own1; have R1 := Lib.hid (runsAt_own own1); clear own1; have k2 := Kp.trans (show Kp wr _ from (by first | assumption | exact Kp.drew _)) k1; clear k1)
            (try go_wp2_with fail)
            refine hK.out _ _ ?_ (fun hHeld1 => ?_)
            · (try dsimp only); exact KS.out _ (by first | assumption | exact Kp.drew _)
            clear hK K hHeld0
            (try simp only [Act.put, tD3, List.setIfInBounds_toArray, List.set_cons_zero, List.set_cons_succ])
            refine tkE 5 tD5 rfl (by kernel_rfl) (fun K hK => ?_)
            go_simp
            (refine (YP.out _ (JT.out.trans (by first | assumption | exact Kp.drew _))).mono ?_; rintro e w' ⟨v2, rfl, own2, k1⟩; obtain ⟨ad2, cp2, rfl⟩ := own_slice own2; have R2 := Lib.hid (runsAt_own own2); have R3 := Lib.hid (R1.out.kp k1); clear own2; have k2 := Kp.trans (show Kp wr _ from (by first | assumption | exact Kp.drew _)) k1; clear k1)
            (try go_wp2_with fail)
            refine hK.out _ _ ?_ (fun hHeld2 => ?_)
            · (try dsimp only); exact KS.out _ (by first | assumption | exact Kp.drew _)
            clear hK K hHeld1
            (try simp only [Act.put, tD5, List.setIfInBounds_toArray, List.set_cons_zero, List.set_cons_succ])
            refine tkE 6 tD6 rfl (by kernel_rfl) (fun K hK => ?_)
            go_simp
            (refine (samePairs_yes _ _ P _ R3.out R2.out LP).mono ?_; rintro e w' ⟨rfl, k1⟩; have k2 := Kp.trans (show Kp wr _ from (by first | assumption | exact Kp.drew _)) k1; clear k1)
            (try go_wp2_with fail)
            refine hK.out _ _ ?_ (fun hHeld3 => ?_)
            · (try dsimp only); exact KS.out _ (by first | assumption | exact Kp.drew _)
            clear hK K hHeld2
            (try simp only [Act.put, tD6, List.setIfInBounds_toArray, List.set_cons_zero, List.set_cons_succ])
            refine tkW (v := ?_) 7 tD7 rfl (by kernel_rfl) (by kernel_rfl) (by kernel_rfl) (fun _ _ _ h => h) (by rfl) ?_ (by assumption) ?_
            rotate_left
            · intro w hSw; (try dsimp only at hSw); go_simp; (try with_reducible rfl)
            (try simp only [Act.put, tD7, List.setIfInBounds_toArray, List.set_cons_zero, List.set_cons_succ])
            refine tkW (v := ?_) 8 tD8 rfl (by kernel_rfl) (by kernel_rfl) (by kernel_rfl) (fun _ _ _ h => h) (by rfl) ?_ (by assumption) ?_
            rotate_left
            · intro w hSw; (try dsimp only at hSw); go_simp; (try with_reducible rfl)
            (try simp only [Act.put, tD8, List.setIfInBounds_toArray, List.set_cons_zero, List.set_cons_succ])
            refine wpAnyH_done (by kernel_rfl) ?_ _
            go_wp2
            go_ret
            exact ⟨rfl, K00.out.trans (JT.out.trans (by first | assumption | exact Kp.drew _))⟩
  | false =>
    go_wp2
    go_loopw [7] (fun i wr => ∃ k : Nat, k ≤ ag.length ∧ i = .int .i64 k ∧ Hid (Kp w4 wr)) (fun i _ => ag.length - (intOf i).toNat)
    case atStart => exact ⟨0, Nat.zero_le _, rfl, K5⟩
    case round =>
      obtain ⟨k, hk, rfl, J⟩ := hrel
      obtain ⟨c0, c1, c2, c3, c4, c5, c6, c7, c8, c9⟩ := HB.out wr J.out
      go_wp2
      go_loopw [10] (fun i wr => ∃ k : Nat, k ≤ bg.length ∧ i = .int .i64 k ∧ Hid (Kp w4 wr)) (fun i _ => bg.length - (intOf i).toNat)
      case atStart => exact ⟨0, Nat.zero_le _, rfl, J⟩
      case round =>
        obtain ⟨kb, hkb, rfl, JT⟩ := hrel
        obtain ⟨c0, c1, c2, c3, c4, c5, c6, c7, c8, c9⟩ := HB.out wr JT.out
        have KS := Lib.hid (fun w' (kq : Kp wr w') => show w'.cell? ⟨w.heap.size, 0, none⟩ = some (.bool spf) ∧ w'.cell? ⟨w.heap.size, 1, none⟩ = some (.int .i64 uf) ∧ w'.cell? ⟨w.heap.size, 2, none⟩ = some (.slice adf af.length caf) ∧ w'.cell? ⟨w.heap.size, 3, none⟩ = some (.slice bdf bf.length cbf) ∧ w'.cell? ⟨w.heap.size + 1, 0, none⟩ = some (.int .i64 pS) ∧ w'.cell? ⟨w.heap.size + 1, 1, none⟩ = some (.int .i64 pE) ∧ w'.cell? ⟨w3.heap.size, 0, none⟩ = some (.bool false) ∧ w'.cell? ⟨w3.heap.size, 1, none⟩ = some (.int .i64 ug) ∧ w'.cell? ⟨w3.heap.size, 2, none⟩ = some (.slice adg ag.length cag) ∧ w'.cell? ⟨w3.heap.size, 3, none⟩ = some (.slice bdg bg.length cbg) ∧ Kp wr w' from ⟨(HB.out w' (JT.out.trans kq)).1, (HB.out w' (JT.out.trans kq)).2.1, (HB.out w' (JT.out.trans kq)).2.2.1, (HB.out w' (JT.out.trans kq)).2.2.2.1, (HB.out w' (JT.out.trans kq)).2.2.2.2.1, (HB.out w' (JT.out.trans kq)).2.2.2.2.2.1, (HB.out w' (JT.out.trans kq)).2.2.2.2.2.2.1, (HB.out w' (JT.out.trans kq)).2.2.2.2.2.2.2.1, (HB.out w' (JT.out.trans kq)).2.2.2.2.2.2.2.2.1, (HB.out w' (JT.out.trans kq)).2.2.2.2.2.2.2.2.2, kq⟩)
        go_wp2_with fail
        refine wp_region_held_drew (S := fun w' => w'.cell? ⟨w.heap.size, 0, none⟩ = some (.bool spf) ∧ w'.cell? ⟨w.heap.size, 1, none⟩ = some (.int .i64 uf) ∧ w'.cell? ⟨w.heap.size, 2, none⟩ = some (.slice adf af.length caf) ∧ w'.cell? ⟨w.heap.size, 3, none⟩ = some (.slice bdf bf.length cbf) ∧ w'.cell? ⟨w.heap.size + 1, 0, none⟩ = some (.int .i64 pS) ∧ w'.cell? ⟨w.heap.size + 1, 1, none⟩ = some (.int .i64 pE) ∧ w'.cell? ⟨w3.heap.size, 0, none⟩ = some (.bool false) ∧ w'.cell? ⟨w3.heap.size, 1, none⟩ = some (.int .i64 ug) ∧ w'.cell? ⟨w3.heap.size, 2, none⟩ = some (.slice adg ag.length cag) ∧ w'.cell? ⟨w3.heap.size, 3, none⟩ = some (.slice bdg bg.length cbg) ∧ Kp wr w') (by kernel_rfl) ?_ (fun hHeld0 => ?_)
        · (try dsimp only); exact KS.out _ (by first | assumption | exact Kp.drew _)
        refine tkW (v := ?_) 0 tD0 rfl (by kernel_rfl) (by kernel_rfl) (by kernel_rfl) (fun _ _ _ h => h) (by rfl) ?_ (by assumption) ?_
        rotate_left
        · intro w hSw; (try dsimp only at hSw); go_simp; (try with_reducible rfl)
        (try simp only [Act.put, tD0, List.setIfInBounds_toArray, List.set_cons_zero, List.set_cons_succ])
        refine tkW (v := ?_) 1 tD1 rfl (by kernel_rfl) (by kernel_rfl) (by kernel_rfl) (fun _ _ _ h => h) (by rfl) ?_ (by assumption) ?_
        rotate_left
        · intro w hSw; (try dsimp only at hSw); go_simp; (try with_reducible rfl)
        (try simp only [Act.put, tD1, List.setIfInBounds_toArray, List.set_cons_zero, List.set_cons_succ])
        refine tkW (v := ?_) 2 tD2 rfl (by kernel_rfl) (by kernel_rfl) (by kernel_rfl) (fun _ _ _ h => h) (by rfl) ?_ (by assumption) ?_
        rotate_left
        · intro w hSw; (try dsimp only at hSw); go_simp; (try with_reducible rfl)
        (try simp only [Act.put, tD2, List.setIfInBounds_toArray, List.set_cons_zero, List.set_cons_succ])
        refine tkW (v := ?_) 4 tD4 rfl (by kernel_rfl) (by kernel_rfl) (by kernel_rfl) (fun _ _ _ h => h) (by rfl) ?_ (by assumption) ?_
        rotate_left
        · intro w hSw; (try dsimp only at hSw); go_simp; (try with_reducible rfl)
        (try simp only [Act.put, tD4, List.setIfInBounds_toArray, List.set_cons_zero, List.set_cons_succ])
        refine tkE 3 tD3 rfl (by kernel_rfl) (fun K hK => ?_)
        go_simp
        (refine (XP.out _ (JT.out.trans (by first | assumption | exact Kp.drew _))).mono ?_; rintro e w' ⟨v1, rfl, own1, k1⟩; obtain ⟨ad1, cp1, rfl⟩ := own_slice own1; have R1 := Lib.hid (runsAt_own own1); clear own1; have k2 := Kp.trans (show Kp wr _ from (by first | assumption | exact Kp.drew _)) k1; clear k1)
        (try go_wp2_with fail)
        refine hK.out _ _ ?_ (fun hHeld1 => ?_)
        · (try dsimp only); exact KS.out _ (by first | assumption | exact Kp.drew _)
        clear hK K hHeld0
        (try simp only [Act.put, tD3, List.setIfInBounds_toArray, List.set_cons_zero, List.set_cons_succ])
        refine tkE 5 tD5 rfl (by kernel_rfl) (fun K hK => ?_)
        go_simp
        (refine (YP.out _ (JT.out.trans (by first | assumption | exact Kp.drew _))).mono ?_; rintro e w' ⟨v2, rfl, own2, k1⟩; obtain ⟨ad2, cp2, rfl⟩ := own_slice own2; have R2 := Lib.hid (runsAt_own own2); have R3 := Lib.hid (R1.out.kp k1); clear own2; have k2 := Kp.trans (show Kp wr _ from (by first | assumption | exact Kp.drew _)) k1; clear k1)
        (try go_wp2_with fail)
        refine hK.out _ _ ?_ (fun hHeld2 => ?_)
        · (try dsimp only); exact KS.out _ (by first | assumption | exact Kp.drew _)
        clear hK K hHeld1
        (try simp only [Act.put, tD5, List.setIfInBounds_toArray, List.set_cons_zero, List.set_cons_succ])
        refine tkE 6 tD6 rfl (by kernel_rfl) (fun K hK => ?_)
        go_simp
        (refine (samePairs_yes _ _ P _ R3.out R2.out LP).mono ?_; rintro e w' ⟨rfl, k1⟩; have k2 := Kp.trans (show Kp wr _ from (by first | assumption | exact Kp.drew _)) k1; clear k1)
        (try go_wp2_with fail)
        refine hK.out _ _ ?_ (fun hHeld3 => ?_)
        · (try dsimp only); exact KS.out _ (by first | assumption | exact Kp.drew _)
        clear hK K hHeld2
        (try simp only [Act.put, tD6, List.setIfInBounds_toArray, List.set_cons_zero, List.set_cons_succ])
        refine tkW (v := ?_) 7 tD7 rfl (by kernel_rfl) (by kernel_rfl) (by kernel_rfl) (fun _ _ _ h => h) (by rfl) ?_ (by assumption) ?_
        rotate_left
        · intro w hSw; (try dsimp only at hSw); go_simp; (try with_reducible rfl)
        (try simp only [Act.put, tD7, List.setIfInBounds_toArray, List.set_cons_zero, List.set_cons_succ])
        refine tkW (v := ?_) 8 tD8 rfl (by kernel_rfl) (by kernel_rfl) (by kernel_rfl) (fun _ _ _ h => h) (by rfl) ?_ (by assumption) ?_
        rotate_left
        · intro w hSw; (try dsimp only at hSw); go_simp; (try with_reducible rfl)
        (try simp only [Act.put, tD8, List.setIfInBounds_toArray, List.set_cons_zero, List.set_cons_succ])
        refine wpAnyH_done (by kernel_rfl) ?_ _
        go_wp2
        go_ret
        exact ⟨rfl, K00.out.trans (JT.out.trans (by first | assumption | exact Kp.drew _))⟩
theorem leafTidy_walk (f : LF) (vaf vbf : Value) (pS pE : Int) (w : World) (raf : RunsAt w vaf f.a) (rbf : RunsAt w vbf f.b) (iaf : I64R f.a) (ibf : I64R f.b) (hp1 : -9223372036854775808 ≤ pS) (hp2 : pS ≤ 9223372036854775807) (hp3 : -9223372036854775808 ≤ pE) (hp4 : pE ≤ 9223372036854775807) (T : Tabs w) :
    Calls Tryd.prog 4 #[leafV f vaf vbf, .agg #[.int .i64 pS, .int .i64 pE]] w fun e w' => e = .returned (.bool true) ∧ Kp w w' := by
  rcases Bool.eq_false_or_eq_true (fewB f) with hf | hf
  · exact tidy_main f vaf vbf pS pE w raf rbf iaf ibf hp1 hp2 hp3 hp4 T hf
  · exact tidy_few f vaf vbf pS pE w raf rbf iaf ibf hp1 hp2 hp3 hp4 T hf
end Go.Proofs.YtbahhgpaafgpoaaDoor
