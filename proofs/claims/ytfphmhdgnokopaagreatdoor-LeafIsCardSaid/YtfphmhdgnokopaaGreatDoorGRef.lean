/-
  Joined: RefL, RefM, RefN, RefO.
-/
import Derived.Test.YtfphmhdgnokopaaGreatDoorGLeafA
import Derived.Test.YtfphmhdgnokopaaGreatDoorGSetA
import Derived.Test.YtfphmhdgnokopaaGreatDoorGImgC
import Derived.Test.YtfphmhdgnokopaaGreatDoorGUnit
import Derived.LoopTactic
import Derived.Test.YtfphmhdgnokopaaGreatDoorGLeafB
namespace Go.Proofs.YtfphmhdgnokopaaGreatDoor
open Go.RowKit
set_option linter.unusedVariables false
set_option linter.unusedSimpArgs false
def withB (most : Int) (s : List R) : Bool := saneB s && (decide (s.length = 0) || (decide (0 ≤ leastR s) && decide (greatR s ≤ most)))
theorem withB_setB (k : Int) (s : List R) : withB (cnt k - 1) s = setB k s := by
  unfold withB setB
  have : decide (greatR s ≤ cnt k - 1) = decide (greatR s < cnt k) := by
    by_cases h : greatR s < cnt k
    · rw [decide_eq_true h, decide_eq_true (by omega)]
    · rw [decide_eq_false h, decide_eq_false (by omega)]
  rw [this]
theorem withB_day (s : List R) : withB 3652424 s = setB 0 s := by
  rw [← withB_setB, cnt_zero]
  rfl
/-- the first and the last run's numbers -/
theorem ends_at {w : World} {v : Value} {l : List R} (h : RunsAt w v l) (h0 : 0 < l.length) : ∃ b off c, v = .slice (some ⟨b, off, none⟩) l.length c ∧ w.cell? ⟨b, off, none⟩ = some (.int .i64 (leastR l)) ∧ w.cell? ⟨b, off + (l.length - 1) * 2 + 1, none⟩ = some (.int .i64 (greatR l)) := by
  rcases h with ⟨_, _, _, e⟩ | ⟨b, off, cap, ev, hc, hm, hx⟩
  · rw [e] at h0; simp at h0
  · refine ⟨b, off, cap, ev, ?_, (hx (l.length - 1) (by omega)).2⟩
    have := (hx 0 h0).1
    rwa [Nat.zero_mul, Nat.add_zero] at this
set_option maxHeartbeats 16000000 in
set_option maxRecDepth 100000 in
theorem rwithin_any (v : Value) (l : List R) (m : Int) (w : World) (hv : RunsAt w v l) (hl : I64R l) (hn : l.length ≤ 1000000) :
    Calls Tryz.prog 62 #[v, .int .i64 m] w fun e w' => e = .returned (.bool (withB m l)) ∧ Kp w w' := by
  have C := Lib.hid (rsane_any v l w hv hl)
  rw [show withB m l = (saneB l && (decide (l.length = 0) || (decide (0 ≤ leastR l) && decide (greatR l ≤ m)))) from rfl]
  by_cases h0 : l.length = 0
  · obtain ⟨ad, cp, rfl⟩ := hv.slice
    have q : ((l.length : Int) == 0) = true := by rw [h0]; rfl
    rw [decide_eq_true h0]
    clear h0 hv hl hn
    generalize saneB l = s at *
    cases s
    all_goals
      go_enter Tryz.func62, Tryz.ntmps62
      go_wp2_with fail
      refine (C.out).mono ?_
      rintro e w1 ⟨rfl, kk⟩
      have K := Lib.hid kk
      clear kk C
      go_wp2
      go_ret
      exact ⟨by first | rfl | simp | simp [*], K.out⟩
  · have q : ((l.length : Int) == 0) = false := beq_eq_false_iff_ne.2 (by omega)
    have E := Lib.hid (fun w1 (kk : Kp w w1) => ends_at (hv.kp kk) (by omega))
    obtain ⟨b, off, cp, ev, c0, c1⟩ := ends_at hv (by omega)
    cases ev
    have D0 := Lib.hid (fun w1 (kk : Kp w w1) => cell_up kk c0)
    have D1 := Lib.hid (fun w1 (kk : Kp w w1) => cell_up kk c1)
    have ws : IntKind.i64.wrap ((l.length : Int) - 1) = ((l.length - 1 : Nat) : Int) := by rw [show (l.length : Int) - 1 = ((l.length - 1 : Nat) : Int) by omega]; exact IntWalk.i64_in _ (by omega)
    have wt : (l.length : Int) - 1 = ((l.length - 1 : Nat) : Int) := by omega
    have wu : IntKind.i64.wrap ((l.length - 1 : Nat) : Int) = ((l.length - 1 : Nat) : Int) := IntWalk.i64_in _ (by omega)
    have wx : l.length - 1 < l.length := by omega
    have wz : 0 < l.length := by omega
    have wy : ((l.length - 1 : Nat) : Int) < (l.length : Int) := by omega
    have wv : (0 : Int) ≤ ((l.length - 1 : Nat) : Int) := by omega
    rw [decide_eq_false h0]
    clear h0 hv hl E c0 c1
    generalize l.length - 1 = n1 at *
    generalize saneB l = s at *
    generalize leastR l = x at *
    generalize greatR l = y at *
    obtain ⟨qa, hqa⟩ : ∃ qa, decide (0 ≤ x) = qa := ⟨_, rfl⟩
    obtain ⟨qb, hqb⟩ : ∃ qb, decide (y ≤ m) = qb := ⟨_, rfl⟩
    rw [hqa, hqb]
    cases s <;> cases qa
    all_goals
      go_enter Tryz.func62, Tryz.ntmps62
      go_wp2_with fail
      refine (C.out).mono ?_
      rintro e w1 ⟨rfl, kk⟩
      have K := Lib.hid kk
      have e0 := D0.out w1 kk
      have e1 := D1.out w1 kk
      clear kk C
      go_wp2
      go_ret
      exact ⟨by first | rfl | simp | simp [*], K.out⟩
abbrev rS0 : Oper := { dst := some 18, op := Go.Op.fieldAddr 24 (Go.Operand.tmp 1) 1, type := 0, pos := "ref.go:22", after := #[], guard := none }
abbrev rS1 : Oper := { dst := some 19, op := Go.Op.load 3 (Go.Operand.tmp 18), type := 3, pos := "ref.go:22", after := #[{ on := 0, ground := Go.Ground.data }], guard := none }
abbrev rS2 : Oper := { dst := some 20, op := Go.Op.binOp Go.BinOp.geq 3 (Go.Operand.tmp 19) (Go.Operand.const (Go.Value.int Go.IntKind.i64 0)) 3, type := 4, pos := "ref.go:22", after := #[{ on := 1, ground := Go.Ground.data }], guard := none }
abbrev rS3 : Oper := { dst := some 21, op := Go.Op.move (Go.Operand.tmp 20), type := 4, pos := "ref.go:22", after := #[{ on := 2, ground := Go.Ground.data }], guard := none }
abbrev rS4 : Oper := { dst := some 22, op := Go.Op.fieldAddr 24 (Go.Operand.tmp 1) 1, type := 0, pos := "ref.go:22", after := #[{ on := 3, ground := Go.Ground.guard }], guard := some (3, true) }
abbrev rS5 : Oper := { dst := some 23, op := Go.Op.load 3 (Go.Operand.tmp 22), type := 3, pos := "ref.go:22", after := #[{ on := 4, ground := Go.Ground.data }, { on := 3, ground := Go.Ground.guard }], guard := some (3, true) }
abbrev rS6 : Oper := { dst := some 24, op := Go.Op.binOp Go.BinOp.leq 3 (Go.Operand.tmp 23) (Go.Operand.const (Go.Value.int Go.IntKind.i64 5)) 3, type := 4, pos := "ref.go:22", after := #[{ on := 5, ground := Go.Ground.data }, { on := 3, ground := Go.Ground.guard }], guard := some (3, true) }
abbrev rS7 : Oper := { dst := some 25, op := Go.Op.pick (Go.Operand.tmp 21) (Go.Operand.tmp 24) (Go.Operand.const (Go.Value.bool false)), type := 4, pos := "ref.go:22", after := #[{ on := 3, ground := Go.Ground.data }, { on := 6, ground := Go.Ground.data }], guard := none }
abbrev rS8 : Oper := { dst := some 26, op := Go.Op.move (Go.Operand.tmp 25), type := 4, pos := "ref.go:22", after := #[{ on := 7, ground := Go.Ground.data }, { on := 3, ground := Go.Ground.chain }], guard := none }
abbrev rS9 : Oper := { dst := some 27, op := Go.Op.fieldAddr 24 (Go.Operand.tmp 1) 2, type := 0, pos := "ref.go:22", after := #[{ on := 8, ground := Go.Ground.guard }], guard := some (8, true) }
abbrev rS10 : Oper := { dst := some 28, op := Go.Op.load 22 (Go.Operand.tmp 27), type := 22, pos := "ref.go:22", after := #[{ on := 9, ground := Go.Ground.data }, { on := 8, ground := Go.Ground.guard }], guard := some (8, true) }
abbrev rS11 : Oper := { dst := some 29, op := Go.Op.fieldAddr 24 (Go.Operand.tmp 1) 1, type := 0, pos := "ref.go:22", after := #[{ on := 8, ground := Go.Ground.guard }], guard := some (8, true) }
abbrev rS12 : Oper := { dst := some 30, op := Go.Op.load 3 (Go.Operand.tmp 29), type := 3, pos := "ref.go:22", after := #[{ on := 11, ground := Go.Ground.data }, { on := 8, ground := Go.Ground.guard }], guard := some (8, true) }
abbrev rS13 : Oper := { dst := some 31, op := Go.Op.call { callee := Go.Callee.value (Go.Operand.func 63), args := #[Go.Operand.tmp 30], argTypes := #[3] }, type := 3, pos := "ref.go:22", after := #[{ on := 12, ground := Go.Ground.data }, { on := 8, ground := Go.Ground.chain }, { on := 8, ground := Go.Ground.guard }], guard := some (8, true) }
abbrev rS14 : Oper := { dst := some 32, op := Go.Op.binOp Go.BinOp.sub 3 (Go.Operand.tmp 31) (Go.Operand.const (Go.Value.int Go.IntKind.i64 1)) 3, type := 3, pos := "ref.go:22", after := #[{ on := 13, ground := Go.Ground.data }, { on := 8, ground := Go.Ground.guard }], guard := some (8, true) }
abbrev rS15 : Oper := { dst := some 33, op := Go.Op.call { callee := Go.Callee.value (Go.Operand.func 62), args := #[Go.Operand.tmp 28, Go.Operand.tmp 32], argTypes := #[22, 3] }, type := 4, pos := "ref.go:22", after := #[{ on := 10, ground := Go.Ground.data }, { on := 14, ground := Go.Ground.data }, { on := 13, ground := Go.Ground.chain }, { on := 8, ground := Go.Ground.guard }], guard := some (8, true) }
abbrev rS16 : Oper := { dst := some 34, op := Go.Op.pick (Go.Operand.tmp 26) (Go.Operand.tmp 33) (Go.Operand.const (Go.Value.bool false)), type := 4, pos := "ref.go:22", after := #[{ on := 8, ground := Go.Ground.data }, { on := 15, ground := Go.Ground.data }], guard := none }
abbrev rS17 : Oper := { dst := some 35, op := Go.Op.move (Go.Operand.tmp 34), type := 4, pos := "ref.go:22", after := #[{ on := 16, ground := Go.Ground.data }, { on := 15, ground := Go.Ground.chain }], guard := none }
abbrev rS18 : Oper := { dst := some 36, op := Go.Op.fieldAddr 24 (Go.Operand.tmp 1) 3, type := 0, pos := "ref.go:22", after := #[{ on := 17, ground := Go.Ground.guard }], guard := some (17, true) }
abbrev rS19 : Oper := { dst := some 37, op := Go.Op.load 22 (Go.Operand.tmp 36), type := 22, pos := "ref.go:22", after := #[{ on := 18, ground := Go.Ground.data }, { on := 17, ground := Go.Ground.guard }], guard := some (17, true) }
abbrev rS20 : Oper := { dst := some 38, op := Go.Op.call { callee := Go.Callee.builtin Go.Builtin.len, args := #[Go.Operand.tmp 37], argTypes := #[22] }, type := 3, pos := "ref.go:22", after := #[{ on := 19, ground := Go.Ground.data }, { on := 17, ground := Go.Ground.guard }], guard := some (17, true) }
abbrev rS21 : Oper := { dst := some 39, op := Go.Op.binOp Go.BinOp.eql 3 (Go.Operand.tmp 38) (Go.Operand.const (Go.Value.int Go.IntKind.i64 0)) 3, type := 4, pos := "ref.go:22", after := #[{ on := 20, ground := Go.Ground.data }, { on := 17, ground := Go.Ground.guard }], guard := some (17, true) }
abbrev rS22 : Oper := { dst := some 40, op := Go.Op.pick (Go.Operand.tmp 35) (Go.Operand.tmp 39) (Go.Operand.const (Go.Value.bool false)), type := 4, pos := "ref.go:22", after := #[{ on := 17, ground := Go.Ground.data }, { on := 21, ground := Go.Ground.data }], guard := none }
abbrev rS23 : Oper := { dst := some 2, op := Go.Op.assign (Go.Operand.tmp 40), type := 4, pos := "ref.go:22", after := #[{ on := 22, ground := Go.Ground.data }, { on := 17, ground := Go.Ground.chain }, { on := 0, ground := Go.Ground.phase }, { on := 1, ground := Go.Ground.phase }, { on := 2, ground := Go.Ground.phase }, { on := 3, ground := Go.Ground.phase }, { on := 4, ground := Go.Ground.phase }, { on := 5, ground := Go.Ground.phase }, { on := 6, ground := Go.Ground.phase }, { on := 7, ground := Go.Ground.phase }, { on := 8, ground := Go.Ground.phase }, { on := 9, ground := Go.Ground.phase }, { on := 10, ground := Go.Ground.phase }, { on := 11, ground := Go.Ground.phase }, { on := 12, ground := Go.Ground.phase }, { on := 13, ground := Go.Ground.phase }, { on := 14, ground := Go.Ground.phase }, { on := 15, ground := Go.Ground.phase }, { on := 16, ground := Go.Ground.phase }, { on := 17, ground := Go.Ground.phase }, { on := 18, ground := Go.Ground.phase }, { on := 19, ground := Go.Ground.phase }, { on := 20, ground := Go.Ground.phase }, { on := 21, ground := Go.Ground.phase }, { on := 22, ground := Go.Ground.phase }], guard := none }
set_option maxHeartbeats 16000000 in
set_option maxRecDepth 100000 in
theorem refSane_any (f : LF) (va vb : Value) (w : World) (ha : RunsAt w va f.a) (hb : RunsAt w vb f.b) (ia : I64R f.a) (ib : I64R f.b) (na : f.a.length ≤ 1000000) (nb : f.b.length ≤ 1000000) :
    Calls Tryz.prog 18 #[leafV f va vb] w fun e w' => e = .returned (.bool (leafB f)) ∧ Kp w w' := by
  obtain ⟨sp, u, a, b⟩ := f
  obtain ⟨ad, ca, rfl⟩ := ha.slice
  obtain ⟨bd, cb, rfl⟩ := hb.slice
  unfold leafV
  simp only at ha hb ia ib na nb ⊢
  cases sp with
  | true =>
    have E : leafB ⟨true, u, a, b⟩ = ((u == 0) && (setB 0 a && setB 0 b)) := rfl
    rw [E]
    have CA := Lib.hid (fun w1 (kk : Kp w w1) => rwithin_any _ a 3652424 w1 (ha.kp kk) ia na)
    have CB := Lib.hid (fun w1 (kk : Kp w w1) => rwithin_any _ b 3652424 w1 (hb.kp kk) ib nb)
    rw [withB_day] at CA CB
    clear ha hb ia ib E
    generalize setB 0 a = sa at *
    generalize setB 0 b = sb at *
    have K0 := Lib.hid (Kp.alloc w (.cells #[.bool true, .int .i64 u, .slice ad a.length ca, .slice bd b.length cb] 24))
    by_cases hu : u = 0
    · subst hu
      cases sa with
      | true =>
        go_enter Tryz.func18, Tryz.ntmps18
        go_wp2_with fail
        refine (CA.out _ K0.out).mono ?_
        rintro e w1 ⟨rfl, kk⟩
        have c3 := (Below.cell (p := ⟨w.heap.size, 3, none⟩) kk (by simp)).trans (show _ = some (.slice bd b.length cb) by simp)
        have K1 := Lib.hid (K0.out.trans kk)
        clear kk
        go_wp2_with fail
        refine (CB.out _ K1.out).mono ?_
        rintro e w2 ⟨rfl, kk⟩
        have K2 := Lib.hid (K1.out.trans kk)
        clear kk
        go_wp2
        go_ret
        exact ⟨rfl, K2.out⟩
      | false =>
        go_enter Tryz.func18, Tryz.ntmps18
        go_wp2_with fail
        refine (CA.out _ K0.out).mono ?_
        rintro e w1 ⟨rfl, kk⟩
        have K1 := Lib.hid (K0.out.trans kk)
        clear kk
        go_wp2
        go_ret
        exact ⟨rfl, K1.out⟩
    · have q : (u == 0) = false := beq_eq_false_iff_ne.2 hu
      go_enter Tryz.func18, Tryz.ntmps18
      go_wp2
      go_ret
      exact ⟨by rw [q]; rfl, K0.out⟩
  | false =>
    have E : leafB ⟨false, u, a, b⟩ = (decide (0 < cnt u) && (setB u a && decide (b.length = 0))) := rfl
    rw [E]
    have CA := Lib.hid (fun w1 (kk : Kp w w1) => rwithin_any _ a (cnt u - 1) w1 (ha.kp kk) ia na)
    rw [withB_setB] at CA
    have CN := Lib.hid (fun w1 => rcount_any u w1)
    have cb1 := cnt_bd u
    have wc : IntKind.i64.wrap (cnt u - 1) = cnt u - 1 := IntWalk.i64_in _ (by omega)
    obtain ⟨W0, hW⟩ : ∃ W0, W0 = w.alloc (.cells #[.bool false, .int .i64 u, .slice ad a.length ca, .slice bd b.length cb] 24) := ⟨_, rfl⟩
    have K0 := Lib.hid (show Kp w W0 by rw [hW]; exact Kp.alloc _ _)
    have HB := Lib.hid (fun w1 (k : Kp W0 w1) => show w1.cell? ⟨w.heap.size, 0, none⟩ = some (.bool false) ∧ w1.cell? ⟨w.heap.size, 1, none⟩ = some (.int .i64 u) ∧ w1.cell? ⟨w.heap.size, 2, none⟩ = some (.slice ad a.length ca) ∧ w1.cell? ⟨w.heap.size, 3, none⟩ = some (.slice bd b.length cb) from ⟨cell_up k (by rw [hW]; simp), cell_up k (by rw [hW]; simp), cell_up k (by rw [hW]; simp), cell_up k (by rw [hW]; simp)⟩)
    have HW := Lib.hid hW
    clear ha hb ia ib E hW
    by_cases u0 : 0 ≤ u
    · by_cases u5 : u ≤ 5
      · have hm : decide (0 < cnt u) = true := decide_eq_true (by unfold cnt; (repeat' split) <;> omega)
        rw [hm]
        have q0 : decide (0 ≤ u) = true := decide_eq_true u0
        have q5 : decide (u ≤ 5) = true := decide_eq_true u5
        generalize cnt u = m at *
        generalize setB u a = sa at *
        obtain ⟨z, hz⟩ : ∃ z, decide (b.length = 0) = z := ⟨_, rfl⟩
        have q : ((b.length : Int) == 0) = z := by rw [← hz]; exact len_zero _
        rw [hz]
        clear hz u0 u5 hm
        cases sa with
        | true =>
          have KS := Lib.hid (fun w' (kq : Kp W0 w') => show w'.cell? ⟨w.heap.size, 0, none⟩ = some (.bool false) ∧ w'.cell? ⟨w.heap.size, 1, none⟩ = some (.int .i64 u) ∧ w'.cell? ⟨w.heap.size, 2, none⟩ = some (.slice ad a.length ca) ∧ w'.cell? ⟨w.heap.size, 3, none⟩ = some (.slice bd b.length cb) ∧ Kp W0 w' from ⟨(HB.out w' kq).1, (HB.out w' kq).2.1, (HB.out w' kq).2.2.1, (HB.out w' kq).2.2.2, kq⟩)
          go_enter Tryz.func18, Tryz.ntmps18
          obtain ⟨c0, c1, c2, c3⟩ := HB.out W0 (Kp.refl _)
          go_wp2_with fail
          rw [← HW.out]
          refine wp_region_held_drew (S := fun w' => w'.cell? ⟨w.heap.size, 0, none⟩ = some (.bool false) ∧ w'.cell? ⟨w.heap.size, 1, none⟩ = some (.int .i64 u) ∧ w'.cell? ⟨w.heap.size, 2, none⟩ = some (.slice ad a.length ca) ∧ w'.cell? ⟨w.heap.size, 3, none⟩ = some (.slice bd b.length cb) ∧ Kp W0 w') (by kernel_rfl) ?_ (fun hHeld0 => ?_)
          · (try dsimp only); exact KS.out _ (by first | assumption | exact Kp.drew _)
          refine tkW (v := ?_) 0 rS0 rfl (by kernel_rfl) (by kernel_rfl) (by kernel_rfl) (fun _ _ _ h => h) (by rfl) ?_ (by assumption) ?_
          rotate_left
          · intro w hSw; (try dsimp only at hSw); go_simp; (try with_reducible rfl)
          (try simp only [Act.put, rS0, List.setIfInBounds_toArray, List.set_cons_zero, List.set_cons_succ])
          refine tkW (v := ?_) 1 rS1 rfl (by kernel_rfl) (by kernel_rfl) (by kernel_rfl) (fun _ _ _ h => h) (by rfl) ?_ (by assumption) ?_
          rotate_left
          · intro w hSw; (try dsimp only at hSw); go_simp; (try with_reducible rfl)
          (try simp only [Act.put, rS1, List.setIfInBounds_toArray, List.set_cons_zero, List.set_cons_succ])
          refine tkW (v := ?_) 2 rS2 rfl (by kernel_rfl) (by kernel_rfl) (by kernel_rfl) (fun _ _ _ h => h) (by rfl) ?_ (by assumption) ?_
          rotate_left
          · intro w hSw; (try dsimp only at hSw); go_simp; (try with_reducible rfl)
          (try simp only [Act.put, rS2, List.setIfInBounds_toArray, List.set_cons_zero, List.set_cons_succ])
          refine tkW (v := ?_) 3 rS3 rfl (by kernel_rfl) (by kernel_rfl) (by kernel_rfl) (fun _ _ _ h => h) (by rfl) ?_ (by assumption) ?_
          rotate_left
          · intro w hSw; (try dsimp only at hSw); go_simp; (try with_reducible rfl)
          (try simp only [Act.put, rS3, List.setIfInBounds_toArray, List.set_cons_zero, List.set_cons_succ])
          refine tkW (v := ?_) 4 rS4 rfl (by kernel_rfl) (by kernel_rfl) (by kernel_rfl) (fun _ _ _ h => h) (by rfl) ?_ (by assumption) ?_
          rotate_left
          · intro w hSw; (try dsimp only at hSw); go_simp; (try with_reducible rfl)
          (try simp only [Act.put, rS4, List.setIfInBounds_toArray, List.set_cons_zero, List.set_cons_succ])
          refine tkW (v := ?_) 5 rS5 rfl (by kernel_rfl) (by kernel_rfl) (by kernel_rfl) (fun _ _ _ h => h) (by rfl) ?_ (by assumption) ?_
          rotate_left
          · intro w hSw; (try dsimp only at hSw); go_simp; (try with_reducible rfl)
          (try simp only [Act.put, rS5, List.setIfInBounds_toArray, List.set_cons_zero, List.set_cons_succ])
          refine tkW (v := ?_) 6 rS6 rfl (by kernel_rfl) (by kernel_rfl) (by kernel_rfl) (fun _ _ _ h => h) (by rfl) ?_ (by assumption) ?_
          rotate_left
          · intro w hSw; (try dsimp only at hSw); go_simp; (try with_reducible rfl)
          (try simp only [Act.put, rS6, List.setIfInBounds_toArray, List.set_cons_zero, List.set_cons_succ])
          refine tkW (v := ?_) 7 rS7 rfl (by kernel_rfl) (by kernel_rfl) (by kernel_rfl) (fun _ _ _ h => h) (by rfl) ?_ (by assumption) ?_
          rotate_left
          · intro w hSw; (try dsimp only at hSw); go_simp; (try with_reducible rfl)
          (try simp only [Act.put, rS7, List.setIfInBounds_toArray, List.set_cons_zero, List.set_cons_succ])
          refine tkW (v := ?_) 8 rS8 rfl (by kernel_rfl) (by kernel_rfl) (by kernel_rfl) (fun _ _ _ h => h) (by rfl) ?_ (by assumption) ?_
          rotate_left
          · intro w hSw; (try dsimp only at hSw); go_simp; (try with_reducible rfl)
          (try simp only [Act.put, rS8, List.setIfInBounds_toArray, List.set_cons_zero, List.set_cons_succ])
          refine tkW (v := ?_) 9 rS9 rfl (by kernel_rfl) (by kernel_rfl) (by kernel_rfl) (fun _ _ _ h => h) (by rfl) ?_ (by assumption) ?_
          rotate_left
          · intro w hSw; (try dsimp only at hSw); go_simp; (try with_reducible rfl)
          (try simp only [Act.put, rS9, List.setIfInBounds_toArray, List.set_cons_zero, List.set_cons_succ])
          refine tkW (v := ?_) 10 rS10 rfl (by kernel_rfl) (by kernel_rfl) (by kernel_rfl) (fun _ _ _ h => h) (by rfl) ?_ (by assumption) ?_
          rotate_left
          · intro w hSw; (try dsimp only at hSw); go_simp; (try with_reducible rfl)
          (try simp only [Act.put, rS10, List.setIfInBounds_toArray, List.set_cons_zero, List.set_cons_succ])
          refine tkW (v := ?_) 11 rS11 rfl (by kernel_rfl) (by kernel_rfl) (by kernel_rfl) (fun _ _ _ h => h) (by rfl) ?_ (by assumption) ?_
          rotate_left
          · intro w hSw; (try dsimp only at hSw); go_simp; (try with_reducible rfl)
          (try simp only [Act.put, rS11, List.setIfInBounds_toArray, List.set_cons_zero, List.set_cons_succ])
          refine tkW (v := ?_) 12 rS12 rfl (by kernel_rfl) (by kernel_rfl) (by kernel_rfl) (fun _ _ _ h => h) (by rfl) ?_ (by assumption) ?_
          rotate_left
          · intro w hSw; (try dsimp only at hSw); go_simp; (try with_reducible rfl)
          (try simp only [Act.put, rS12, List.setIfInBounds_toArray, List.set_cons_zero, List.set_cons_succ])
          refine tkE 13 rS13 rfl (by kernel_rfl) (fun K hK => ?_)
          go_simp
          (refine (CN.out _).mono ?_; rintro e w' ⟨rfl, rfl⟩)
          (try go_wp2_with fail)
          refine hK.out _ _ ?_ (fun hHeld1 => ?_)
          · (try dsimp only); exact KS.out _ (by first | assumption | exact Kp.drew _)
          clear hK K hHeld0
          (try simp only [Act.put, rS13, List.setIfInBounds_toArray, List.set_cons_zero, List.set_cons_succ])
          refine tkW (v := ?_) 14 rS14 rfl (by kernel_rfl) (by kernel_rfl) (by kernel_rfl) (fun _ _ _ h => h) (by rfl) ?_ (by assumption) ?_
          rotate_left
          · intro w hSw; (try dsimp only at hSw); go_simp; (try with_reducible rfl)
          (try simp only [Act.put, rS14, List.setIfInBounds_toArray, List.set_cons_zero, List.set_cons_succ])
          refine tkE 15 rS15 rfl (by kernel_rfl) (fun K hK => ?_)
          go_simp
          (refine (CA.out _ (K0.out.trans (by first | assumption | exact Kp.drew _))).mono ?_; rintro e w' ⟨rfl, k1⟩; have k2 := Kp.trans (show Kp W0 _ from (by first | assumption | exact Kp.drew _)) k1; clear k1)
          (try go_wp2_with fail)
          refine hK.out _ _ ?_ (fun hHeld2 => ?_)
          · (try dsimp only); exact KS.out _ (by first | assumption | exact Kp.drew _)
          clear hK K hHeld1
          (try simp only [Act.put, rS15, List.setIfInBounds_toArray, List.set_cons_zero, List.set_cons_succ])
          refine tkW (v := ?_) 16 rS16 rfl (by kernel_rfl) (by kernel_rfl) (by kernel_rfl) (fun _ _ _ h => h) (by rfl) ?_ (by assumption) ?_
          rotate_left
          · intro w hSw; (try dsimp only at hSw); go_simp; (try with_reducible rfl)
          (try simp only [Act.put, rS16, List.setIfInBounds_toArray, List.set_cons_zero, List.set_cons_succ])
          refine tkW (v := ?_) 17 rS17 rfl (by kernel_rfl) (by kernel_rfl) (by kernel_rfl) (fun _ _ _ h => h) (by rfl) ?_ (by assumption) ?_
          rotate_left
          · intro w hSw; (try dsimp only at hSw); go_simp; (try with_reducible rfl)
          (try simp only [Act.put, rS17, List.setIfInBounds_toArray, List.set_cons_zero, List.set_cons_succ])
          refine tkW (v := ?_) 18 rS18 rfl (by kernel_rfl) (by kernel_rfl) (by kernel_rfl) (fun _ _ _ h => h) (by rfl) ?_ (by assumption) ?_
          rotate_left
          · intro w hSw; (try dsimp only at hSw); go_simp; (try with_reducible rfl)
          (try simp only [Act.put, rS18, List.setIfInBounds_toArray, List.set_cons_zero, List.set_cons_succ])
          refine tkW (v := ?_) 19 rS19 rfl (by kernel_rfl) (by kernel_rfl) (by kernel_rfl) (fun _ _ _ h => h) (by rfl) ?_ (by assumption) ?_
          rotate_left
          · intro w hSw; (try dsimp only at hSw); go_simp; (try with_reducible rfl)
          (try simp only [Act.put, rS19, List.setIfInBounds_toArray, List.set_cons_zero, List.set_cons_succ])
          refine tkW (v := ?_) 20 rS20 rfl (by kernel_rfl) (by kernel_rfl) (by kernel_rfl) (fun _ _ _ h => h) (by rfl) ?_ (by assumption) ?_
          rotate_left
          · intro w hSw; (try dsimp only at hSw); go_simp; (try with_reducible rfl)
          (try simp only [Act.put, rS20, List.setIfInBounds_toArray, List.set_cons_zero, List.set_cons_succ])
          refine tkW (v := ?_) 21 rS21 rfl (by kernel_rfl) (by kernel_rfl) (by kernel_rfl) (fun _ _ _ h => h) (by rfl) ?_ (by assumption) ?_
          rotate_left
          · intro w hSw; (try dsimp only at hSw); go_simp; (try with_reducible rfl)
          (try simp only [Act.put, rS21, List.setIfInBounds_toArray, List.set_cons_zero, List.set_cons_succ])
          refine tkW (v := ?_) 22 rS22 rfl (by kernel_rfl) (by kernel_rfl) (by kernel_rfl) (fun _ _ _ h => h) (by rfl) ?_ (by assumption) ?_
          rotate_left
          · intro w hSw; (try dsimp only at hSw); go_simp; (try with_reducible rfl)
          (try simp only [Act.put, rS22, List.setIfInBounds_toArray, List.set_cons_zero, List.set_cons_succ])
          refine tkW (v := ?_) 23 rS23 rfl (by kernel_rfl) (by kernel_rfl) (by kernel_rfl) (fun _ _ _ h => h) (by rfl) ?_ (by assumption) ?_
          rotate_left
          · intro w hSw; (try dsimp only at hSw); go_simp; (try with_reducible rfl)
          (try simp only [Act.put, rS23, List.setIfInBounds_toArray, List.set_cons_zero, List.set_cons_succ])
          refine wpAnyH_done (by kernel_rfl) ?_ _
          go_wp2
          go_ret
          exact ⟨by first | rfl | simp [*], K0.out.trans (by first | assumption | exact Kp.drew _)⟩
        | false =>
          have KS := Lib.hid (fun w' (kq : Kp W0 w') => show w'.cell? ⟨w.heap.size, 0, none⟩ = some (.bool false) ∧ w'.cell? ⟨w.heap.size, 1, none⟩ = some (.int .i64 u) ∧ w'.cell? ⟨w.heap.size, 2, none⟩ = some (.slice ad a.length ca) ∧ w'.cell? ⟨w.heap.size, 3, none⟩ = some (.slice bd b.length cb) ∧ Kp W0 w' from ⟨(HB.out w' kq).1, (HB.out w' kq).2.1, (HB.out w' kq).2.2.1, (HB.out w' kq).2.2.2, kq⟩)
          go_enter Tryz.func18, Tryz.ntmps18
          obtain ⟨c0, c1, c2, c3⟩ := HB.out W0 (Kp.refl _)
          go_wp2_with fail
          rw [← HW.out]
          refine wp_region_held_drew (S := fun w' => w'.cell? ⟨w.heap.size, 0, none⟩ = some (.bool false) ∧ w'.cell? ⟨w.heap.size, 1, none⟩ = some (.int .i64 u) ∧ w'.cell? ⟨w.heap.size, 2, none⟩ = some (.slice ad a.length ca) ∧ w'.cell? ⟨w.heap.size, 3, none⟩ = some (.slice bd b.length cb) ∧ Kp W0 w') (by kernel_rfl) ?_ (fun hHeld0 => ?_)
          · (try dsimp only); exact KS.out _ (by first | assumption | exact Kp.drew _)
          refine tkW (v := ?_) 0 rS0 rfl (by kernel_rfl) (by kernel_rfl) (by kernel_rfl) (fun _ _ _ h => h) (by rfl) ?_ (by assumption) ?_
          rotate_left
          · intro w hSw; (try dsimp only at hSw); go_simp; (try with_reducible rfl)
          (try simp only [Act.put, rS0, List.setIfInBounds_toArray, List.set_cons_zero, List.set_cons_succ])
          refine tkW (v := ?_) 1 rS1 rfl (by kernel_rfl) (by kernel_rfl) (by kernel_rfl) (fun _ _ _ h => h) (by rfl) ?_ (by assumption) ?_
          rotate_left
          · intro w hSw; (try dsimp only at hSw); go_simp; (try with_reducible rfl)
          (try simp only [Act.put, rS1, List.setIfInBounds_toArray, List.set_cons_zero, List.set_cons_succ])
          refine tkW (v := ?_) 2 rS2 rfl (by kernel_rfl) (by kernel_rfl) (by kernel_rfl) (fun _ _ _ h => h) (by rfl) ?_ (by assumption) ?_
          rotate_left
          · intro w hSw; (try dsimp only at hSw); go_simp; (try with_reducible rfl)
          (try simp only [Act.put, rS2, List.setIfInBounds_toArray, List.set_cons_zero, List.set_cons_succ])
          refine tkW (v := ?_) 3 rS3 rfl (by kernel_rfl) (by kernel_rfl) (by kernel_rfl) (fun _ _ _ h => h) (by rfl) ?_ (by assumption) ?_
          rotate_left
          · intro w hSw; (try dsimp only at hSw); go_simp; (try with_reducible rfl)
          (try simp only [Act.put, rS3, List.setIfInBounds_toArray, List.set_cons_zero, List.set_cons_succ])
          refine tkW (v := ?_) 4 rS4 rfl (by kernel_rfl) (by kernel_rfl) (by kernel_rfl) (fun _ _ _ h => h) (by rfl) ?_ (by assumption) ?_
          rotate_left
          · intro w hSw; (try dsimp only at hSw); go_simp; (try with_reducible rfl)
          (try simp only [Act.put, rS4, List.setIfInBounds_toArray, List.set_cons_zero, List.set_cons_succ])
          refine tkW (v := ?_) 5 rS5 rfl (by kernel_rfl) (by kernel_rfl) (by kernel_rfl) (fun _ _ _ h => h) (by rfl) ?_ (by assumption) ?_
          rotate_left
          · intro w hSw; (try dsimp only at hSw); go_simp; (try with_reducible rfl)
          (try simp only [Act.put, rS5, List.setIfInBounds_toArray, List.set_cons_zero, List.set_cons_succ])
          refine tkW (v := ?_) 6 rS6 rfl (by kernel_rfl) (by kernel_rfl) (by kernel_rfl) (fun _ _ _ h => h) (by rfl) ?_ (by assumption) ?_
          rotate_left
          · intro w hSw; (try dsimp only at hSw); go_simp; (try with_reducible rfl)
          (try simp only [Act.put, rS6, List.setIfInBounds_toArray, List.set_cons_zero, List.set_cons_succ])
          refine tkW (v := ?_) 7 rS7 rfl (by kernel_rfl) (by kernel_rfl) (by kernel_rfl) (fun _ _ _ h => h) (by rfl) ?_ (by assumption) ?_
          rotate_left
          · intro w hSw; (try dsimp only at hSw); go_simp; (try with_reducible rfl)
          (try simp only [Act.put, rS7, List.setIfInBounds_toArray, List.set_cons_zero, List.set_cons_succ])
          refine tkW (v := ?_) 8 rS8 rfl (by kernel_rfl) (by kernel_rfl) (by kernel_rfl) (fun _ _ _ h => h) (by rfl) ?_ (by assumption) ?_
          rotate_left
          · intro w hSw; (try dsimp only at hSw); go_simp; (try with_reducible rfl)
          (try simp only [Act.put, rS8, List.setIfInBounds_toArray, List.set_cons_zero, List.set_cons_succ])
          refine tkW (v := ?_) 9 rS9 rfl (by kernel_rfl) (by kernel_rfl) (by kernel_rfl) (fun _ _ _ h => h) (by rfl) ?_ (by assumption) ?_
          rotate_left
          · intro w hSw; (try dsimp only at hSw); go_simp; (try with_reducible rfl)
          (try simp only [Act.put, rS9, List.setIfInBounds_toArray, List.set_cons_zero, List.set_cons_succ])
          refine tkW (v := ?_) 10 rS10 rfl (by kernel_rfl) (by kernel_rfl) (by kernel_rfl) (fun _ _ _ h => h) (by rfl) ?_ (by assumption) ?_
          rotate_left
          · intro w hSw; (try dsimp only at hSw); go_simp; (try with_reducible rfl)
          (try simp only [Act.put, rS10, List.setIfInBounds_toArray, List.set_cons_zero, List.set_cons_succ])
          refine tkW (v := ?_) 11 rS11 rfl (by kernel_rfl) (by kernel_rfl) (by kernel_rfl) (fun _ _ _ h => h) (by rfl) ?_ (by assumption) ?_
          rotate_left
          · intro w hSw; (try dsimp only at hSw); go_simp; (try with_reducible rfl)
          (try simp only [Act.put, rS11, List.setIfInBounds_toArray, List.set_cons_zero, List.set_cons_succ])
          refine tkW (v := ?_) 12 rS12 rfl (by kernel_rfl) (by kernel_rfl) (by kernel_rfl) (fun _ _ _ h => h) (by rfl) ?_ (by assumption) ?_
          rotate_left
          · intro w hSw; (try dsimp only at hSw); go_simp; (try with_reducible rfl)
          (try simp only [Act.put, rS12, List.setIfInBounds_toArray, List.set_cons_zero, List.set_cons_succ])
          refine tkE 13 rS13 rfl (by kernel_rfl) (fun K hK => ?_)
          go_simp
          (refine (CN.out _).mono ?_; rintro e w' ⟨rfl, rfl⟩)
          (try go_wp2_with fail)
          refine hK.out _ _ ?_ (fun hHeld1 => ?_)
          · (try dsimp only); exact KS.out _ (by first | assumption | exact Kp.drew _)
          clear hK K hHeld0
          (try simp only [Act.put, rS13, List.setIfInBounds_toArray, List.set_cons_zero, List.set_cons_succ])
          refine tkW (v := ?_) 14 rS14 rfl (by kernel_rfl) (by kernel_rfl) (by kernel_rfl) (fun _ _ _ h => h) (by rfl) ?_ (by assumption) ?_
          rotate_left
          · intro w hSw; (try dsimp only at hSw); go_simp; (try with_reducible rfl)
          (try simp only [Act.put, rS14, List.setIfInBounds_toArray, List.set_cons_zero, List.set_cons_succ])
          refine tkE 15 rS15 rfl (by kernel_rfl) (fun K hK => ?_)
          go_simp
          (refine (CA.out _ (K0.out.trans (by first | assumption | exact Kp.drew _))).mono ?_; rintro e w' ⟨rfl, k1⟩; have k2 := Kp.trans (show Kp W0 _ from (by first | assumption | exact Kp.drew _)) k1; clear k1)
          (try go_wp2_with fail)
          refine hK.out _ _ ?_ (fun hHeld2 => ?_)
          · (try dsimp only); exact KS.out _ (by first | assumption | exact Kp.drew _)
          clear hK K hHeld1
          (try simp only [Act.put, rS15, List.setIfInBounds_toArray, List.set_cons_zero, List.set_cons_succ])
          refine tkW (v := ?_) 16 rS16 rfl (by kernel_rfl) (by kernel_rfl) (by kernel_rfl) (fun _ _ _ h => h) (by rfl) ?_ (by assumption) ?_
          rotate_left
          · intro w hSw; (try dsimp only at hSw); go_simp; (try with_reducible rfl)
          (try simp only [Act.put, rS16, List.setIfInBounds_toArray, List.set_cons_zero, List.set_cons_succ])
          refine tkW (v := ?_) 17 rS17 rfl (by kernel_rfl) (by kernel_rfl) (by kernel_rfl) (fun _ _ _ h => h) (by rfl) ?_ (by assumption) ?_
          rotate_left
          · intro w hSw; (try dsimp only at hSw); go_simp; (try with_reducible rfl)
          (try simp only [Act.put, rS17, List.setIfInBounds_toArray, List.set_cons_zero, List.set_cons_succ])
          refine tkU 18 rS18 rfl (by kernel_rfl) (by kernel_rfl) (by kernel_rfl) (fun _ _ _ h => h) (by rfl) (by assumption) ?_
          (try simp only [Act.put, rS18, List.setIfInBounds_toArray, List.set_cons_zero, List.set_cons_succ])
          refine tkU 19 rS19 rfl (by kernel_rfl) (by kernel_rfl) (by kernel_rfl) (fun _ _ _ h => h) (by rfl) (by assumption) ?_
          (try simp only [Act.put, rS19, List.setIfInBounds_toArray, List.set_cons_zero, List.set_cons_succ])
          refine tkU 20 rS20 rfl (by kernel_rfl) (by kernel_rfl) (by kernel_rfl) (fun _ _ _ h => h) (by rfl) (by assumption) ?_
          (try simp only [Act.put, rS20, List.setIfInBounds_toArray, List.set_cons_zero, List.set_cons_succ])
          refine tkU 21 rS21 rfl (by kernel_rfl) (by kernel_rfl) (by kernel_rfl) (fun _ _ _ h => h) (by rfl) (by assumption) ?_
          (try simp only [Act.put, rS21, List.setIfInBounds_toArray, List.set_cons_zero, List.set_cons_succ])
          refine tkW (v := ?_) 22 rS22 rfl (by kernel_rfl) (by kernel_rfl) (by kernel_rfl) (fun _ _ _ h => h) (by rfl) ?_ (by assumption) ?_
          rotate_left
          · intro w hSw; (try dsimp only at hSw); go_simp; (try with_reducible rfl)
          (try simp only [Act.put, rS22, List.setIfInBounds_toArray, List.set_cons_zero, List.set_cons_succ])
          refine tkW (v := ?_) 23 rS23 rfl (by kernel_rfl) (by kernel_rfl) (by kernel_rfl) (fun _ _ _ h => h) (by rfl) ?_ (by assumption) ?_
          rotate_left
          · intro w hSw; (try dsimp only at hSw); go_simp; (try with_reducible rfl)
          (try simp only [Act.put, rS23, List.setIfInBounds_toArray, List.set_cons_zero, List.set_cons_succ])
          refine wpAnyH_done (by kernel_rfl) ?_ _
          go_wp2
          go_ret
          exact ⟨by first | rfl | simp [*], K0.out.trans (by first | assumption | exact Kp.drew _)⟩
      · have hm : decide (0 < cnt u) = false := decide_eq_false (by have := cnt_no (k := u) (.inr (by omega)); omega)
        rw [hm]
        have q0 : decide (0 ≤ u) = true := decide_eq_true u0
        have q5 : decide (u ≤ 5) = false := decide_eq_false u5
        generalize cnt u = m at *
        clear u0 u5 hm
        have KS := Lib.hid (fun w' (kq : Kp W0 w') => show w'.cell? ⟨w.heap.size, 0, none⟩ = some (.bool false) ∧ w'.cell? ⟨w.heap.size, 1, none⟩ = some (.int .i64 u) ∧ w'.cell? ⟨w.heap.size, 2, none⟩ = some (.slice ad a.length ca) ∧ w'.cell? ⟨w.heap.size, 3, none⟩ = some (.slice bd b.length cb) ∧ Kp W0 w' from ⟨(HB.out w' kq).1, (HB.out w' kq).2.1, (HB.out w' kq).2.2.1, (HB.out w' kq).2.2.2, kq⟩)
        go_enter Tryz.func18, Tryz.ntmps18
        obtain ⟨c0, c1, c2, c3⟩ := HB.out W0 (Kp.refl _)
        go_wp2_with fail
        rw [← HW.out]
        refine wp_region_held_drew (S := fun w' => w'.cell? ⟨w.heap.size, 0, none⟩ = some (.bool false) ∧ w'.cell? ⟨w.heap.size, 1, none⟩ = some (.int .i64 u) ∧ w'.cell? ⟨w.heap.size, 2, none⟩ = some (.slice ad a.length ca) ∧ w'.cell? ⟨w.heap.size, 3, none⟩ = some (.slice bd b.length cb) ∧ Kp W0 w') (by kernel_rfl) ?_ (fun hHeld0 => ?_)
        · (try dsimp only); exact KS.out _ (by first | assumption | exact Kp.drew _)
        refine tkW (v := ?_) 0 rS0 rfl (by kernel_rfl) (by kernel_rfl) (by kernel_rfl) (fun _ _ _ h => h) (by rfl) ?_ (by assumption) ?_
        rotate_left
        · intro w hSw; (try dsimp only at hSw); go_simp; (try with_reducible rfl)
        (try simp only [Act.put, rS0, List.setIfInBounds_toArray, List.set_cons_zero, List.set_cons_succ])
        refine tkW (v := ?_) 1 rS1 rfl (by kernel_rfl) (by kernel_rfl) (by kernel_rfl) (fun _ _ _ h => h) (by rfl) ?_ (by assumption) ?_
        rotate_left
        · intro w hSw; (try dsimp only at hSw); go_simp; (try with_reducible rfl)
        (try simp only [Act.put, rS1, List.setIfInBounds_toArray, List.set_cons_zero, List.set_cons_succ])
        refine tkW (v := ?_) 2 rS2 rfl (by kernel_rfl) (by kernel_rfl) (by kernel_rfl) (fun _ _ _ h => h) (by rfl) ?_ (by assumption) ?_
        rotate_left
        · intro w hSw; (try dsimp only at hSw); go_simp; (try with_reducible rfl)
        (try simp only [Act.put, rS2, List.setIfInBounds_toArray, List.set_cons_zero, List.set_cons_succ])
        refine tkW (v := ?_) 3 rS3 rfl (by kernel_rfl) (by kernel_rfl) (by kernel_rfl) (fun _ _ _ h => h) (by rfl) ?_ (by assumption) ?_
        rotate_left
        · intro w hSw; (try dsimp only at hSw); go_simp; (try with_reducible rfl)
        (try simp only [Act.put, rS3, List.setIfInBounds_toArray, List.set_cons_zero, List.set_cons_succ])
        refine tkW (v := ?_) 4 rS4 rfl (by kernel_rfl) (by kernel_rfl) (by kernel_rfl) (fun _ _ _ h => h) (by rfl) ?_ (by assumption) ?_
        rotate_left
        · intro w hSw; (try dsimp only at hSw); go_simp; (try with_reducible rfl)
        (try simp only [Act.put, rS4, List.setIfInBounds_toArray, List.set_cons_zero, List.set_cons_succ])
        refine tkW (v := ?_) 5 rS5 rfl (by kernel_rfl) (by kernel_rfl) (by kernel_rfl) (fun _ _ _ h => h) (by rfl) ?_ (by assumption) ?_
        rotate_left
        · intro w hSw; (try dsimp only at hSw); go_simp; (try with_reducible rfl)
        (try simp only [Act.put, rS5, List.setIfInBounds_toArray, List.set_cons_zero, List.set_cons_succ])
        refine tkW (v := ?_) 6 rS6 rfl (by kernel_rfl) (by kernel_rfl) (by kernel_rfl) (fun _ _ _ h => h) (by rfl) ?_ (by assumption) ?_
        rotate_left
        · intro w hSw; (try dsimp only at hSw); go_simp; (try with_reducible rfl)
        (try simp only [Act.put, rS6, List.setIfInBounds_toArray, List.set_cons_zero, List.set_cons_succ])
        refine tkW (v := ?_) 7 rS7 rfl (by kernel_rfl) (by kernel_rfl) (by kernel_rfl) (fun _ _ _ h => h) (by rfl) ?_ (by assumption) ?_
        rotate_left
        · intro w hSw; (try dsimp only at hSw); go_simp; (try with_reducible rfl)
        (try simp only [Act.put, rS7, List.setIfInBounds_toArray, List.set_cons_zero, List.set_cons_succ])
        refine tkW (v := ?_) 8 rS8 rfl (by kernel_rfl) (by kernel_rfl) (by kernel_rfl) (fun _ _ _ h => h) (by rfl) ?_ (by assumption) ?_
        rotate_left
        · intro w hSw; (try dsimp only at hSw); go_simp; (try with_reducible rfl)
        (try simp only [Act.put, rS8, List.setIfInBounds_toArray, List.set_cons_zero, List.set_cons_succ])
        refine tkU 9 rS9 rfl (by kernel_rfl) (by kernel_rfl) (by kernel_rfl) (fun _ _ _ h => h) (by rfl) (by assumption) ?_
        (try simp only [Act.put, rS9, List.setIfInBounds_toArray, List.set_cons_zero, List.set_cons_succ])
        refine tkU 10 rS10 rfl (by kernel_rfl) (by kernel_rfl) (by kernel_rfl) (fun _ _ _ h => h) (by rfl) (by assumption) ?_
        (try simp only [Act.put, rS10, List.setIfInBounds_toArray, List.set_cons_zero, List.set_cons_succ])
        refine tkU 11 rS11 rfl (by kernel_rfl) (by kernel_rfl) (by kernel_rfl) (fun _ _ _ h => h) (by rfl) (by assumption) ?_
        (try simp only [Act.put, rS11, List.setIfInBounds_toArray, List.set_cons_zero, List.set_cons_succ])
        refine tkU 12 rS12 rfl (by kernel_rfl) (by kernel_rfl) (by kernel_rfl) (fun _ _ _ h => h) (by rfl) (by assumption) ?_
        (try simp only [Act.put, rS12, List.setIfInBounds_toArray, List.set_cons_zero, List.set_cons_succ])
        refine tkU 13 rS13 rfl (by kernel_rfl) (by kernel_rfl) (by kernel_rfl) (fun _ _ _ h => h) (by rfl) (by assumption) ?_
        (try simp only [Act.put, rS13, List.setIfInBounds_toArray, List.set_cons_zero, List.set_cons_succ])
        refine tkU 14 rS14 rfl (by kernel_rfl) (by kernel_rfl) (by kernel_rfl) (fun _ _ _ h => h) (by rfl) (by assumption) ?_
        (try simp only [Act.put, rS14, List.setIfInBounds_toArray, List.set_cons_zero, List.set_cons_succ])
        refine tkU 15 rS15 rfl (by kernel_rfl) (by kernel_rfl) (by kernel_rfl) (fun _ _ _ h => h) (by rfl) (by assumption) ?_
        (try simp only [Act.put, rS15, List.setIfInBounds_toArray, List.set_cons_zero, List.set_cons_succ])
        refine tkW (v := ?_) 16 rS16 rfl (by kernel_rfl) (by kernel_rfl) (by kernel_rfl) (fun _ _ _ h => h) (by rfl) ?_ (by assumption) ?_
        rotate_left
        · intro w hSw; (try dsimp only at hSw); go_simp; (try with_reducible rfl)
        (try simp only [Act.put, rS16, List.setIfInBounds_toArray, List.set_cons_zero, List.set_cons_succ])
        refine tkW (v := ?_) 17 rS17 rfl (by kernel_rfl) (by kernel_rfl) (by kernel_rfl) (fun _ _ _ h => h) (by rfl) ?_ (by assumption) ?_
        rotate_left
        · intro w hSw; (try dsimp only at hSw); go_simp; (try with_reducible rfl)
        (try simp only [Act.put, rS17, List.setIfInBounds_toArray, List.set_cons_zero, List.set_cons_succ])
        refine tkU 18 rS18 rfl (by kernel_rfl) (by kernel_rfl) (by kernel_rfl) (fun _ _ _ h => h) (by rfl) (by assumption) ?_
        (try simp only [Act.put, rS18, List.setIfInBounds_toArray, List.set_cons_zero, List.set_cons_succ])
        refine tkU 19 rS19 rfl (by kernel_rfl) (by kernel_rfl) (by kernel_rfl) (fun _ _ _ h => h) (by rfl) (by assumption) ?_
        (try simp only [Act.put, rS19, List.setIfInBounds_toArray, List.set_cons_zero, List.set_cons_succ])
        refine tkU 20 rS20 rfl (by kernel_rfl) (by kernel_rfl) (by kernel_rfl) (fun _ _ _ h => h) (by rfl) (by assumption) ?_
        (try simp only [Act.put, rS20, List.setIfInBounds_toArray, List.set_cons_zero, List.set_cons_succ])
        refine tkU 21 rS21 rfl (by kernel_rfl) (by kernel_rfl) (by kernel_rfl) (fun _ _ _ h => h) (by rfl) (by assumption) ?_
        (try simp only [Act.put, rS21, List.setIfInBounds_toArray, List.set_cons_zero, List.set_cons_succ])
        refine tkW (v := ?_) 22 rS22 rfl (by kernel_rfl) (by kernel_rfl) (by kernel_rfl) (fun _ _ _ h => h) (by rfl) ?_ (by assumption) ?_
        rotate_left
        · intro w hSw; (try dsimp only at hSw); go_simp; (try with_reducible rfl)
        (try simp only [Act.put, rS22, List.setIfInBounds_toArray, List.set_cons_zero, List.set_cons_succ])
        refine tkW (v := ?_) 23 rS23 rfl (by kernel_rfl) (by kernel_rfl) (by kernel_rfl) (fun _ _ _ h => h) (by rfl) ?_ (by assumption) ?_
        rotate_left
        · intro w hSw; (try dsimp only at hSw); go_simp; (try with_reducible rfl)
        (try simp only [Act.put, rS23, List.setIfInBounds_toArray, List.set_cons_zero, List.set_cons_succ])
        refine wpAnyH_done (by kernel_rfl) ?_ _
        go_wp2
        go_ret
        exact ⟨by first | rfl | simp [*], K0.out.trans (by first | assumption | exact Kp.drew _)⟩
    · have hm : decide (0 < cnt u) = false := decide_eq_false (by have := cnt_no (k := u) (.inl (by omega)); omega)
      rw [hm]
      have q0 : decide (0 ≤ u) = false := decide_eq_false u0
      generalize cnt u = m at *
      clear u0 hm
      have KS := Lib.hid (fun w' (kq : Kp W0 w') => show w'.cell? ⟨w.heap.size, 0, none⟩ = some (.bool false) ∧ w'.cell? ⟨w.heap.size, 1, none⟩ = some (.int .i64 u) ∧ w'.cell? ⟨w.heap.size, 2, none⟩ = some (.slice ad a.length ca) ∧ w'.cell? ⟨w.heap.size, 3, none⟩ = some (.slice bd b.length cb) ∧ Kp W0 w' from ⟨(HB.out w' kq).1, (HB.out w' kq).2.1, (HB.out w' kq).2.2.1, (HB.out w' kq).2.2.2, kq⟩)
      go_enter Tryz.func18, Tryz.ntmps18
      obtain ⟨c0, c1, c2, c3⟩ := HB.out W0 (Kp.refl _)
      go_wp2_with fail
      rw [← HW.out]
      refine wp_region_held_drew (S := fun w' => w'.cell? ⟨w.heap.size, 0, none⟩ = some (.bool false) ∧ w'.cell? ⟨w.heap.size, 1, none⟩ = some (.int .i64 u) ∧ w'.cell? ⟨w.heap.size, 2, none⟩ = some (.slice ad a.length ca) ∧ w'.cell? ⟨w.heap.size, 3, none⟩ = some (.slice bd b.length cb) ∧ Kp W0 w') (by kernel_rfl) ?_ (fun hHeld0 => ?_)
      · (try dsimp only); exact KS.out _ (by first | assumption | exact Kp.drew _)
      refine tkW (v := ?_) 0 rS0 rfl (by kernel_rfl) (by kernel_rfl) (by kernel_rfl) (fun _ _ _ h => h) (by rfl) ?_ (by assumption) ?_
      rotate_left
      · intro w hSw; (try dsimp only at hSw); go_simp; (try with_reducible rfl)
      (try simp only [Act.put, rS0, List.setIfInBounds_toArray, List.set_cons_zero, List.set_cons_succ])
      refine tkW (v := ?_) 1 rS1 rfl (by kernel_rfl) (by kernel_rfl) (by kernel_rfl) (fun _ _ _ h => h) (by rfl) ?_ (by assumption) ?_
      rotate_left
      · intro w hSw; (try dsimp only at hSw); go_simp; (try with_reducible rfl)
      (try simp only [Act.put, rS1, List.setIfInBounds_toArray, List.set_cons_zero, List.set_cons_succ])
      refine tkW (v := ?_) 2 rS2 rfl (by kernel_rfl) (by kernel_rfl) (by kernel_rfl) (fun _ _ _ h => h) (by rfl) ?_ (by assumption) ?_
      rotate_left
      · intro w hSw; (try dsimp only at hSw); go_simp; (try with_reducible rfl)
      (try simp only [Act.put, rS2, List.setIfInBounds_toArray, List.set_cons_zero, List.set_cons_succ])
      refine tkW (v := ?_) 3 rS3 rfl (by kernel_rfl) (by kernel_rfl) (by kernel_rfl) (fun _ _ _ h => h) (by rfl) ?_ (by assumption) ?_
      rotate_left
      · intro w hSw; (try dsimp only at hSw); go_simp; (try with_reducible rfl)
      (try simp only [Act.put, rS3, List.setIfInBounds_toArray, List.set_cons_zero, List.set_cons_succ])
      refine tkU 4 rS4 rfl (by kernel_rfl) (by kernel_rfl) (by kernel_rfl) (fun _ _ _ h => h) (by rfl) (by assumption) ?_
      (try simp only [Act.put, rS4, List.setIfInBounds_toArray, List.set_cons_zero, List.set_cons_succ])
      refine tkU 5 rS5 rfl (by kernel_rfl) (by kernel_rfl) (by kernel_rfl) (fun _ _ _ h => h) (by rfl) (by assumption) ?_
      (try simp only [Act.put, rS5, List.setIfInBounds_toArray, List.set_cons_zero, List.set_cons_succ])
      refine tkU 6 rS6 rfl (by kernel_rfl) (by kernel_rfl) (by kernel_rfl) (fun _ _ _ h => h) (by rfl) (by assumption) ?_
      (try simp only [Act.put, rS6, List.setIfInBounds_toArray, List.set_cons_zero, List.set_cons_succ])
      refine tkW (v := ?_) 7 rS7 rfl (by kernel_rfl) (by kernel_rfl) (by kernel_rfl) (fun _ _ _ h => h) (by rfl) ?_ (by assumption) ?_
      rotate_left
      · intro w hSw; (try dsimp only at hSw); go_simp; (try with_reducible rfl)
      (try simp only [Act.put, rS7, List.setIfInBounds_toArray, List.set_cons_zero, List.set_cons_succ])
      refine tkW (v := ?_) 8 rS8 rfl (by kernel_rfl) (by kernel_rfl) (by kernel_rfl) (fun _ _ _ h => h) (by rfl) ?_ (by assumption) ?_
      rotate_left
      · intro w hSw; (try dsimp only at hSw); go_simp; (try with_reducible rfl)
      (try simp only [Act.put, rS8, List.setIfInBounds_toArray, List.set_cons_zero, List.set_cons_succ])
      refine tkU 9 rS9 rfl (by kernel_rfl) (by kernel_rfl) (by kernel_rfl) (fun _ _ _ h => h) (by rfl) (by assumption) ?_
      (try simp only [Act.put, rS9, List.setIfInBounds_toArray, List.set_cons_zero, List.set_cons_succ])
      refine tkU 10 rS10 rfl (by kernel_rfl) (by kernel_rfl) (by kernel_rfl) (fun _ _ _ h => h) (by rfl) (by assumption) ?_
      (try simp only [Act.put, rS10, List.setIfInBounds_toArray, List.set_cons_zero, List.set_cons_succ])
      refine tkU 11 rS11 rfl (by kernel_rfl) (by kernel_rfl) (by kernel_rfl) (fun _ _ _ h => h) (by rfl) (by assumption) ?_
      (try simp only [Act.put, rS11, List.setIfInBounds_toArray, List.set_cons_zero, List.set_cons_succ])
      refine tkU 12 rS12 rfl (by kernel_rfl) (by kernel_rfl) (by kernel_rfl) (fun _ _ _ h => h) (by rfl) (by assumption) ?_
      (try simp only [Act.put, rS12, List.setIfInBounds_toArray, List.set_cons_zero, List.set_cons_succ])
      refine tkU 13 rS13 rfl (by kernel_rfl) (by kernel_rfl) (by kernel_rfl) (fun _ _ _ h => h) (by rfl) (by assumption) ?_
      (try simp only [Act.put, rS13, List.setIfInBounds_toArray, List.set_cons_zero, List.set_cons_succ])
      refine tkU 14 rS14 rfl (by kernel_rfl) (by kernel_rfl) (by kernel_rfl) (fun _ _ _ h => h) (by rfl) (by assumption) ?_
      (try simp only [Act.put, rS14, List.setIfInBounds_toArray, List.set_cons_zero, List.set_cons_succ])
      refine tkU 15 rS15 rfl (by kernel_rfl) (by kernel_rfl) (by kernel_rfl) (fun _ _ _ h => h) (by rfl) (by assumption) ?_
      (try simp only [Act.put, rS15, List.setIfInBounds_toArray, List.set_cons_zero, List.set_cons_succ])
      refine tkW (v := ?_) 16 rS16 rfl (by kernel_rfl) (by kernel_rfl) (by kernel_rfl) (fun _ _ _ h => h) (by rfl) ?_ (by assumption) ?_
      rotate_left
      · intro w hSw; (try dsimp only at hSw); go_simp; (try with_reducible rfl)
      (try simp only [Act.put, rS16, List.setIfInBounds_toArray, List.set_cons_zero, List.set_cons_succ])
      refine tkW (v := ?_) 17 rS17 rfl (by kernel_rfl) (by kernel_rfl) (by kernel_rfl) (fun _ _ _ h => h) (by rfl) ?_ (by assumption) ?_
      rotate_left
      · intro w hSw; (try dsimp only at hSw); go_simp; (try with_reducible rfl)
      (try simp only [Act.put, rS17, List.setIfInBounds_toArray, List.set_cons_zero, List.set_cons_succ])
      refine tkU 18 rS18 rfl (by kernel_rfl) (by kernel_rfl) (by kernel_rfl) (fun _ _ _ h => h) (by rfl) (by assumption) ?_
      (try simp only [Act.put, rS18, List.setIfInBounds_toArray, List.set_cons_zero, List.set_cons_succ])
      refine tkU 19 rS19 rfl (by kernel_rfl) (by kernel_rfl) (by kernel_rfl) (fun _ _ _ h => h) (by rfl) (by assumption) ?_
      (try simp only [Act.put, rS19, List.setIfInBounds_toArray, List.set_cons_zero, List.set_cons_succ])
      refine tkU 20 rS20 rfl (by kernel_rfl) (by kernel_rfl) (by kernel_rfl) (fun _ _ _ h => h) (by rfl) (by assumption) ?_
      (try simp only [Act.put, rS20, List.setIfInBounds_toArray, List.set_cons_zero, List.set_cons_succ])
      refine tkU 21 rS21 rfl (by kernel_rfl) (by kernel_rfl) (by kernel_rfl) (fun _ _ _ h => h) (by rfl) (by assumption) ?_
      (try simp only [Act.put, rS21, List.setIfInBounds_toArray, List.set_cons_zero, List.set_cons_succ])
      refine tkW (v := ?_) 22 rS22 rfl (by kernel_rfl) (by kernel_rfl) (by kernel_rfl) (fun _ _ _ h => h) (by rfl) ?_ (by assumption) ?_
      rotate_left
      · intro w hSw; (try dsimp only at hSw); go_simp; (try with_reducible rfl)
      (try simp only [Act.put, rS22, List.setIfInBounds_toArray, List.set_cons_zero, List.set_cons_succ])
      refine tkW (v := ?_) 23 rS23 rfl (by kernel_rfl) (by kernel_rfl) (by kernel_rfl) (fun _ _ _ h => h) (by rfl) ?_ (by assumption) ?_
      rotate_left
      · intro w hSw; (try dsimp only at hSw); go_simp; (try with_reducible rfl)
      (try simp only [Act.put, rS23, List.setIfInBounds_toArray, List.set_cons_zero, List.set_cons_succ])
      refine wpAnyH_done (by kernel_rfl) ?_ _
      go_wp2
      go_ret
      exact ⟨by first | rfl | simp [*], K0.out.trans (by first | assumption | exact Kp.drew _)⟩
end Go.Proofs.YtfphmhdgnokopaaGreatDoor

namespace Go.Proofs.YtfphmhdgnokopaaGreatDoor
open Go.RowKit
set_option linter.unusedVariables false
set_option linter.unusedSimpArgs false
def asL (f : LF) : LF := if leafB f = true then f else lf0
set_option maxHeartbeats 16000000 in
set_option maxRecDepth 100000 in
theorem refAs_any (f : LF) (va vb : Value) (w : World) (h : LeafOk w f va vb) :
    Calls Tryz.prog 66 #[leafV f va vb] w fun e w' => ∃ va' vb', e = .returned (leafV (asL f) va' vb') ∧ LeafOk w' (asL f) va' vb' ∧ Kp w w' := by
  have C := Lib.hid (fun w1 (kk : Kp w w1) => refSane_any f va vb w1 (h.a.kp kk) (h.b.kp kk) h.ia h.ib (Nat.le_trans h.na (by decide)) (Nat.le_trans h.nb (by decide)))
  have HO := Lib.hid h
  rw [show asL f = if leafB f = true then f else lf0 from rfl]
  generalize leafB f = q at *
  obtain ⟨sp, u, a, b⟩ := f
  obtain ⟨ad, ca, rfl⟩ := h.a.slice
  obtain ⟨bd, cb, rfl⟩ := h.b.slice
  unfold leafV at C
  rw [show leafV ⟨sp, u, a, b⟩ (.slice ad a.length ca) (.slice bd b.length cb) = .agg #[.bool sp, .int .i64 u, .slice ad a.length ca, .slice bd b.length cb] from rfl]
  simp only at C HO ⊢
  have K0 := Lib.hid ((Kp.alloc w (.cells #[.bool sp, .int .i64 u, .slice ad a.length ca, .slice bd b.length cb] 24)).trans (Kp.alloc _ (.cells #[.bool false, .int .i64 0, .slice none 0 0, .slice none 0 0] 24)))
  clear h
  cases q with
  | false =>
    rw [if_neg (by decide)]
    go_enter Tryz.func66, Tryz.ntmps66
    go_wp2_with fail
    refine (C.out _ K0.out).mono ?_
    rintro e w1 ⟨rfl, kk⟩
    have hB := (kk.block (w.heap.size + 1) (by simp)).trans (heap_at (w.alloc _) (.cells #[.bool false, .int .i64 0, .slice none 0 0, .slice none 0 0] 24 (0, 0)) (w.heap.size + 1) (by simp))
    have s1 := kk.size
    simp at s1
    have z2 : ¬ w.heap.size + 1 = w1.heap.size := by omega
    have z3 : w.heap.size + 1 < w1.heap.size := by omega
    have z4 : ¬ w.heap.size = w1.heap.size := by omega
    have z5 : w.heap.size < w1.heap.size := by omega
    have r0 : w1.cell? ⟨w.heap.size + 1, 0, none⟩ = some (.bool false) := by simp [World.cell?, hB]
    have r1 : w1.cell? ⟨w.heap.size + 1, 1, none⟩ = some (.int .i64 0) := by simp [World.cell?, hB]
    have r2 : w1.cell? ⟨w.heap.size + 1, 2, none⟩ = some (.slice none 0 0) := by simp [World.cell?, hB]
    have r3 : w1.cell? ⟨w.heap.size + 1, 3, none⟩ = some (.slice none 0 0) := by simp [World.cell?, hB]
    have f0 : w1.frozen? ⟨w.heap.size + 1, 0, none⟩ = false := by simp [World.frozen?, hB]
    have f1 : w1.frozen? ⟨w.heap.size + 1, 1, none⟩ = false := by simp [World.frozen?, hB]
    have f2 : w1.frozen? ⟨w.heap.size + 1, 2, none⟩ = false := by simp [World.frozen?, hB]
    have f3 : w1.frozen? ⟨w.heap.size + 1, 3, none⟩ = false := by simp [World.frozen?, hB]
    have K1 := Lib.hid (K0.out.trans kk)
    clear kk C
    go_wp2
    have RD1 := fun o => set4_read hB (.bool false) (.int .i64 0) (.slice none 0 0) (.slice none 0 0) (Kp.alloc _ o)
    have RD2 := fun o o' => set4_read hB (.bool false) (.int .i64 0) (.slice none 0 0) (.slice none 0 0) ((Kp.alloc _ o).trans (Kp.alloc _ o'))
    have RD0 := set4_read hB (.bool false) (.int .i64 0) (.slice none 0 0) (.slice none 0 0) (Kp.refl _)
    exact bodyPost_ret (v := .agg #[.bool false, .int .i64 0, .slice none 0 0, .slice none 0 0]) (by simp [results, Tryz.f66, go_sem, RD0, RD1, RD2]) rfl ⟨.slice none 0 0, .slice none 0 0, rfl, lf0_ok _, (set4_below K1.out (w.heap.size + 1) (by omega) _ _ _ _).trans (by first | with_reducible exact Kp.refl _ | with_reducible exact Kp.alloc _ _ | with_reducible exact (Kp.alloc _ _).trans (Kp.alloc _ _) | with_reducible exact ((Kp.alloc _ _).trans (Kp.alloc _ _)).trans (Kp.alloc _ _) | with_reducible exact Kp.drew _ | with_reducible exact Kp.drewN _ _)⟩
  | true =>
    rw [if_pos rfl]
    go_enter Tryz.func66, Tryz.ntmps66
    go_wp2_with fail
    refine (C.out _ K0.out).mono ?_
    rintro e w1 ⟨rfl, kk⟩
    have hB := (kk.block (w.heap.size + 1) (by simp)).trans (heap_at (w.alloc _) (.cells #[.bool false, .int .i64 0, .slice none 0 0, .slice none 0 0] 24 (0, 0)) (w.heap.size + 1) (by simp))
    have s1 := kk.size
    simp at s1
    have z2 : ¬ w.heap.size + 1 = w1.heap.size := by omega
    have z3 : w.heap.size + 1 < w1.heap.size := by omega
    have z4 : ¬ w.heap.size = w1.heap.size := by omega
    have z5 : w.heap.size < w1.heap.size := by omega
    have r0 : w1.cell? ⟨w.heap.size + 1, 0, none⟩ = some (.bool false) := by simp [World.cell?, hB]
    have r1 : w1.cell? ⟨w.heap.size + 1, 1, none⟩ = some (.int .i64 0) := by simp [World.cell?, hB]
    have r2 : w1.cell? ⟨w.heap.size + 1, 2, none⟩ = some (.slice none 0 0) := by simp [World.cell?, hB]
    have r3 : w1.cell? ⟨w.heap.size + 1, 3, none⟩ = some (.slice none 0 0) := by simp [World.cell?, hB]
    have f0 : w1.frozen? ⟨w.heap.size + 1, 0, none⟩ = false := by simp [World.frozen?, hB]
    have f1 : w1.frozen? ⟨w.heap.size + 1, 1, none⟩ = false := by simp [World.frozen?, hB]
    have f2 : w1.frozen? ⟨w.heap.size + 1, 2, none⟩ = false := by simp [World.frozen?, hB]
    have f3 : w1.frozen? ⟨w.heap.size + 1, 3, none⟩ = false := by simp [World.frozen?, hB]
    have c0 := (Below.cell (p := ⟨w.heap.size, 0, none⟩) kk (by simp; omega)).trans (show _ = some (.bool sp) by simp)
    have c1' := (Below.cell (p := ⟨w.heap.size, 1, none⟩) kk (by simp; omega)).trans (show _ = some (.int .i64 u) by simp)
    have c2 := (Below.cell (p := ⟨w.heap.size, 2, none⟩) kk (by simp; omega)).trans (show _ = some (.slice ad a.length ca) by simp)
    have c3 := (Below.cell (p := ⟨w.heap.size, 3, none⟩) kk (by simp; omega)).trans (show _ = some (.slice bd b.length cb) by simp)
    have K1 := Lib.hid (K0.out.trans kk)
    clear kk C
    go_wp2
    have RD1 := fun o => set4_read hB (.bool sp) (.int .i64 u) (.slice ad a.length ca) (.slice bd b.length cb) (Kp.alloc _ o)
    have RD2 := fun o o' => set4_read hB (.bool sp) (.int .i64 u) (.slice ad a.length ca) (.slice bd b.length cb) ((Kp.alloc _ o).trans (Kp.alloc _ o'))
    have RD0 := set4_read hB (.bool sp) (.int .i64 u) (.slice ad a.length ca) (.slice bd b.length cb) (Kp.refl _)
    exact bodyPost_ret (v := .agg #[.bool sp, .int .i64 u, .slice ad a.length ca, .slice bd b.length cb]) (by simp [results, Tryz.f66, go_sem, RD0, RD1, RD2]) rfl ⟨_, _, rfl, HO.out.kp ((set4_below K1.out (w.heap.size + 1) (by omega) _ _ _ _).trans (by first | with_reducible exact Kp.refl _ | with_reducible exact Kp.alloc _ _ | with_reducible exact (Kp.alloc _ _).trans (Kp.alloc _ _) | with_reducible exact ((Kp.alloc _ _).trans (Kp.alloc _ _)).trans (Kp.alloc _ _) | with_reducible exact Kp.drew _ | with_reducible exact Kp.drewN _ _)), (set4_below K1.out (w.heap.size + 1) (by omega) _ _ _ _).trans (by first | with_reducible exact Kp.refl _ | with_reducible exact Kp.alloc _ _ | with_reducible exact (Kp.alloc _ _).trans (Kp.alloc _ _) | with_reducible exact ((Kp.alloc _ _).trans (Kp.alloc _ _)).trans (Kp.alloc _ _) | with_reducible exact Kp.drew _ | with_reducible exact Kp.drewN _ _)⟩
end Go.Proofs.YtfphmhdgnokopaaGreatDoor

namespace Go.Proofs.YtfphmhdgnokopaaGreatDoor
open Go.RowKit
set_option linter.unusedVariables false
set_option linter.unusedSimpArgs false
def goneB (g : LF) : Bool := decide (g.a.length = 0) || (g.sp && (decide (g.b.length = 0) || decide (greatR g.b < leastR g.a)))
noncomputable def tidL (g : LF) : LF := if goneB g = true then lf0 else if g.sp = true then ⟨true, 0, interR g.a [(0, greatR g.b)], interR g.b [(leastR g.a, 3652424)]⟩ else g
theorem len_mem {s : List R} (h : sane s) : s.length = 0 ↔ ∀ n, ¬ memR s n := by
  constructor
  · intro h0 n hn
    have := mem_pos hn
    omega
  · intro g
    rcases Nat.eq_zero_or_pos s.length with e | e
    · exact e
    · exact absurd (least_mem h e) (g _)
theorem tidL_as (f : LF) : tidL (asL f) = lfOf (famR f) := by
  unfold asL
  rcases Bool.eq_false_or_eq_true (leafB f) with hb | hb
  · rw [if_pos hb]
    rcases Bool.eq_false_or_eq_true f.sp with hs | hs
    · obtain ⟨hu, h1, h2⟩ := leafB_span hb hs
      by_cases h0 : f.a.length = 0 ∨ f.b.length = 0
      · rw [famR_none hb hs h0, lfOf_s0 rfl]
        unfold tidL
        rw [if_pos]
        unfold goneB
        rw [hs]
        rcases h0 with h0 | h0 <;> simp [h0]
      · rw [famR_span hb hs h0]
        have pa : 0 < f.a.length := by omega
        have pb : 0 < f.b.length := by omega
        have sm := span_mem hb hs h0
        have ss : sane (interR f.a [(0, greatR f.b)]) := interR_sane _ _
        by_cases hg : greatR f.b < leastR f.a
        · rw [lfOf_s0 ((len_mem ss).2 (fun n hn => by
            have a1 := ((sm n).1.1 hn)
            have a2 := least_min (setB_sane h1) a1.1
            omega))]
          unfold tidL
          rw [if_pos]
          unfold goneB
          rw [hs, decide_eq_true hg]
          simp
        · rw [lfOf_s1 (fun e => (len_mem ss).1 e (leastR f.a) ((sm _).1.2 ⟨least_mem (setB_sane h1) pa, by omega⟩))]
          unfold tidL
          rw [if_neg, if_pos hs]
          unfold goneB
          rw [hs, decide_eq_false hg, decide_eq_false (by omega), decide_eq_false (by omega)]
          simp
    · obtain ⟨hc, h1, h2⟩ := leafB_units hb hs
      rw [famR_units hb hs]
      by_cases h0 : f.a.length = 0
      · rw [lfOf_u0 h0]
        unfold tidL
        rw [if_pos]
        unfold goneB
        rw [decide_eq_true h0]
        rfl
      · rw [lfOf_u1 h0]
        unfold tidL
        rw [if_neg, if_neg (by rw [hs]; decide)]
        · obtain ⟨sp, u, a, b⟩ := f
          simp only at hs h2 ⊢
          rw [hs, h2]
        · unfold goneB
          rw [hs, decide_eq_false h0]
          simp
  · rw [if_neg (by rw [hb]; decide), famR_no hb, lfOf_u0 rfl]
    rfl
end Go.Proofs.YtfphmhdgnokopaaGreatDoor

namespace Go.Proofs.YtfphmhdgnokopaaGreatDoor
open Go.RowKit
set_option linter.unusedVariables false
set_option linter.unusedSimpArgs false
abbrev uA0 : Oper := { dst := some 8, op := Go.Op.fieldAddr 24 (Go.Operand.tmp 3) 2, type := 0, pos := "ref.go:36", after := #[], guard := none }
abbrev uA1 : Oper := { dst := some 9, op := Go.Op.load 22 (Go.Operand.tmp 8), type := 22, pos := "ref.go:36", after := #[{ on := 0, ground := Go.Ground.data }], guard := none }
abbrev uA2 : Oper := { dst := some 10, op := Go.Op.call { callee := Go.Callee.builtin Go.Builtin.len, args := #[Go.Operand.tmp 9], argTypes := #[22] }, type := 3, pos := "ref.go:36", after := #[{ on := 1, ground := Go.Ground.data }], guard := none }
abbrev uA3 : Oper := { dst := some 11, op := Go.Op.binOp Go.BinOp.eql 3 (Go.Operand.tmp 10) (Go.Operand.const (Go.Value.int Go.IntKind.i64 0)) 3, type := 4, pos := "ref.go:36", after := #[{ on := 2, ground := Go.Ground.data }], guard := none }
abbrev uA4 : Oper := { dst := some 12, op := Go.Op.move (Go.Operand.tmp 11), type := 4, pos := "ref.go:36", after := #[{ on := 3, ground := Go.Ground.data }], guard := none }
abbrev uA5 : Oper := { dst := some 13, op := Go.Op.fieldAddr 24 (Go.Operand.tmp 3) 0, type := 0, pos := "ref.go:36", after := #[{ on := 4, ground := Go.Ground.guard }], guard := some (4, false) }
abbrev uA6 : Oper := { dst := some 14, op := Go.Op.load 4 (Go.Operand.tmp 13), type := 4, pos := "ref.go:36", after := #[{ on := 5, ground := Go.Ground.data }, { on := 4, ground := Go.Ground.guard }], guard := some (4, false) }
abbrev uA7 : Oper := { dst := some 15, op := Go.Op.move (Go.Operand.tmp 14), type := 4, pos := "ref.go:36", after := #[{ on := 6, ground := Go.Ground.data }, { on := 4, ground := Go.Ground.chain }, { on := 4, ground := Go.Ground.guard }], guard := some (4, false) }
abbrev uA8 : Oper := { dst := some 16, op := Go.Op.fieldAddr 24 (Go.Operand.tmp 3) 3, type := 0, pos := "ref.go:36", after := #[{ on := 7, ground := Go.Ground.guard }], guard := some (7, true) }
abbrev uA9 : Oper := { dst := some 17, op := Go.Op.load 22 (Go.Operand.tmp 16), type := 22, pos := "ref.go:36", after := #[{ on := 8, ground := Go.Ground.data }, { on := 7, ground := Go.Ground.guard }], guard := some (7, true) }
abbrev uA10 : Oper := { dst := some 18, op := Go.Op.call { callee := Go.Callee.builtin Go.Builtin.len, args := #[Go.Operand.tmp 17], argTypes := #[22] }, type := 3, pos := "ref.go:36", after := #[{ on := 9, ground := Go.Ground.data }, { on := 7, ground := Go.Ground.guard }], guard := some (7, true) }
abbrev uA11 : Oper := { dst := some 19, op := Go.Op.binOp Go.BinOp.eql 3 (Go.Operand.tmp 18) (Go.Operand.const (Go.Value.int Go.IntKind.i64 0)) 3, type := 4, pos := "ref.go:36", after := #[{ on := 10, ground := Go.Ground.data }, { on := 7, ground := Go.Ground.guard }], guard := some (7, true) }
abbrev uA12 : Oper := { dst := some 20, op := Go.Op.move (Go.Operand.tmp 19), type := 4, pos := "ref.go:36", after := #[{ on := 11, ground := Go.Ground.data }, { on := 7, ground := Go.Ground.chain }, { on := 7, ground := Go.Ground.guard }], guard := some (7, true) }
abbrev uA13 : Oper := { dst := some 21, op := Go.Op.fieldAddr 24 (Go.Operand.tmp 3) 2, type := 0, pos := "ref.go:36", after := #[{ on := 12, ground := Go.Ground.guard }], guard := some (12, false) }
abbrev uA14 : Oper := { dst := some 22, op := Go.Op.load 22 (Go.Operand.tmp 21), type := 22, pos := "ref.go:36", after := #[{ on := 13, ground := Go.Ground.data }, { on := 12, ground := Go.Ground.guard }], guard := some (12, false) }
abbrev uA15 : Oper := { dst := some 23, op := Go.Op.indexAddr 22 (Go.Operand.tmp 22) (Go.Operand.const (Go.Value.int Go.IntKind.i64 0)), type := 0, pos := "ref.go:36", after := #[{ on := 14, ground := Go.Ground.data }, { on := 12, ground := Go.Ground.guard }], guard := some (12, false) }
abbrev uA16 : Oper := { dst := some 24, op := Go.Op.fieldAddr 51 (Go.Operand.tmp 23) 0, type := 0, pos := "ref.go:36", after := #[{ on := 15, ground := Go.Ground.data }, { on := 12, ground := Go.Ground.guard }], guard := some (12, false) }
abbrev uA17 : Oper := { dst := some 25, op := Go.Op.load 3 (Go.Operand.tmp 24), type := 3, pos := "ref.go:36", after := #[{ on := 16, ground := Go.Ground.data }, { on := 12, ground := Go.Ground.guard }], guard := some (12, false) }
abbrev uA18 : Oper := { dst := some 26, op := Go.Op.fieldAddr 24 (Go.Operand.tmp 3) 3, type := 0, pos := "ref.go:36", after := #[{ on := 12, ground := Go.Ground.guard }], guard := some (12, false) }
abbrev uA19 : Oper := { dst := some 27, op := Go.Op.load 22 (Go.Operand.tmp 26), type := 22, pos := "ref.go:36", after := #[{ on := 18, ground := Go.Ground.data }, { on := 12, ground := Go.Ground.guard }], guard := some (12, false) }
abbrev uA20 : Oper := { dst := some 28, op := Go.Op.fieldAddr 24 (Go.Operand.tmp 3) 3, type := 0, pos := "ref.go:36", after := #[{ on := 12, ground := Go.Ground.guard }], guard := some (12, false) }
abbrev uA21 : Oper := { dst := some 29, op := Go.Op.load 22 (Go.Operand.tmp 28), type := 22, pos := "ref.go:36", after := #[{ on := 20, ground := Go.Ground.data }, { on := 12, ground := Go.Ground.guard }], guard := some (12, false) }
abbrev uA22 : Oper := { dst := some 30, op := Go.Op.call { callee := Go.Callee.builtin Go.Builtin.len, args := #[Go.Operand.tmp 29], argTypes := #[22] }, type := 3, pos := "ref.go:36", after := #[{ on := 21, ground := Go.Ground.data }, { on := 12, ground := Go.Ground.guard }], guard := some (12, false) }
abbrev uA23 : Oper := { dst := some 31, op := Go.Op.binOp Go.BinOp.sub 3 (Go.Operand.tmp 30) (Go.Operand.const (Go.Value.int Go.IntKind.i64 1)) 3, type := 3, pos := "ref.go:36", after := #[{ on := 22, ground := Go.Ground.data }, { on := 12, ground := Go.Ground.guard }], guard := some (12, false) }
abbrev uA24 : Oper := { dst := some 32, op := Go.Op.indexAddr 22 (Go.Operand.tmp 27) (Go.Operand.tmp 31), type := 0, pos := "ref.go:36", after := #[{ on := 19, ground := Go.Ground.data }, { on := 23, ground := Go.Ground.data }, { on := 12, ground := Go.Ground.guard }], guard := some (12, false) }
abbrev uA25 : Oper := { dst := some 33, op := Go.Op.fieldAddr 51 (Go.Operand.tmp 32) 1, type := 0, pos := "ref.go:36", after := #[{ on := 24, ground := Go.Ground.data }, { on := 12, ground := Go.Ground.guard }], guard := some (12, false) }
abbrev uA26 : Oper := { dst := some 34, op := Go.Op.load 3 (Go.Operand.tmp 33), type := 3, pos := "ref.go:36", after := #[{ on := 25, ground := Go.Ground.data }, { on := 12, ground := Go.Ground.guard }], guard := some (12, false) }
abbrev uA27 : Oper := { dst := some 35, op := Go.Op.binOp Go.BinOp.gtr 3 (Go.Operand.tmp 25) (Go.Operand.tmp 34) 3, type := 4, pos := "ref.go:36", after := #[{ on := 17, ground := Go.Ground.data }, { on := 26, ground := Go.Ground.data }, { on := 12, ground := Go.Ground.guard }], guard := some (12, false) }
abbrev uA28 : Oper := { dst := some 36, op := Go.Op.pick (Go.Operand.tmp 20) (Go.Operand.const (Go.Value.bool true)) (Go.Operand.tmp 35), type := 4, pos := "ref.go:36", after := #[{ on := 12, ground := Go.Ground.data }, { on := 27, ground := Go.Ground.data }, { on := 7, ground := Go.Ground.guard }], guard := some (7, true) }
abbrev uA29 : Oper := { dst := some 37, op := Go.Op.pick (Go.Operand.tmp 15) (Go.Operand.tmp 36) (Go.Operand.const (Go.Value.bool false)), type := 4, pos := "ref.go:36", after := #[{ on := 7, ground := Go.Ground.data }, { on := 28, ground := Go.Ground.data }, { on := 4, ground := Go.Ground.guard }], guard := some (4, false) }
abbrev uA30 : Oper := { dst := some 38, op := Go.Op.pick (Go.Operand.tmp 12) (Go.Operand.const (Go.Value.bool true)) (Go.Operand.tmp 37), type := 4, pos := "ref.go:36", after := #[{ on := 4, ground := Go.Ground.data }, { on := 29, ground := Go.Ground.data }], guard := none }
abbrev uB0 : Oper := { dst := some 44, op := Go.Op.fieldAddr 24 (Go.Operand.tmp 3) 2, type := 0, pos := "ref.go:42", after := #[], guard := none }
abbrev uB1 : Oper := { dst := some 45, op := Go.Op.load 22 (Go.Operand.tmp 44), type := 22, pos := "ref.go:42", after := #[{ on := 0, ground := Go.Ground.data }], guard := none }
abbrev uB2 : Oper := { dst := some 46, op := Go.Op.fieldAddr 24 (Go.Operand.tmp 3) 3, type := 0, pos := "ref.go:42", after := #[], guard := none }
abbrev uB3 : Oper := { dst := some 47, op := Go.Op.load 22 (Go.Operand.tmp 46), type := 22, pos := "ref.go:42", after := #[{ on := 2, ground := Go.Ground.data }], guard := none }
abbrev uB4 : Oper := { dst := some 48, op := Go.Op.fieldAddr 24 (Go.Operand.tmp 3) 3, type := 0, pos := "ref.go:42", after := #[], guard := none }
abbrev uB5 : Oper := { dst := some 49, op := Go.Op.load 22 (Go.Operand.tmp 48), type := 22, pos := "ref.go:42", after := #[{ on := 4, ground := Go.Ground.data }], guard := none }
abbrev uB6 : Oper := { dst := some 50, op := Go.Op.call { callee := Go.Callee.builtin Go.Builtin.len, args := #[Go.Operand.tmp 49], argTypes := #[22] }, type := 3, pos := "ref.go:42", after := #[{ on := 5, ground := Go.Ground.data }], guard := none }
abbrev uB7 : Oper := { dst := some 51, op := Go.Op.binOp Go.BinOp.sub 3 (Go.Operand.tmp 50) (Go.Operand.const (Go.Value.int Go.IntKind.i64 1)) 3, type := 3, pos := "ref.go:42", after := #[{ on := 6, ground := Go.Ground.data }], guard := none }
abbrev uB8 : Oper := { dst := some 52, op := Go.Op.indexAddr 22 (Go.Operand.tmp 47) (Go.Operand.tmp 51), type := 0, pos := "ref.go:42", after := #[{ on := 3, ground := Go.Ground.data }, { on := 7, ground := Go.Ground.data }], guard := none }
abbrev uB9 : Oper := { dst := some 53, op := Go.Op.fieldAddr 51 (Go.Operand.tmp 52) 1, type := 0, pos := "ref.go:42", after := #[{ on := 8, ground := Go.Ground.data }], guard := none }
abbrev uB10 : Oper := { dst := some 54, op := Go.Op.load 3 (Go.Operand.tmp 53), type := 3, pos := "ref.go:42", after := #[{ on := 9, ground := Go.Ground.data }], guard := none }
abbrev uB11 : Oper := { dst := some 55, op := Go.Op.call { callee := Go.Callee.value (Go.Operand.func 81), args := #[Go.Operand.tmp 45, Go.Operand.const (Go.Value.int Go.IntKind.i64 0), Go.Operand.tmp 54], argTypes := #[22, 3, 3] }, type := 22, pos := "ref.go:42", after := #[{ on := 1, ground := Go.Ground.data }, { on := 10, ground := Go.Ground.data }], guard := none }
abbrev uB12 : Oper := { dst := some 4, op := Go.Op.assign (Go.Operand.tmp 55), type := 22, pos := "ref.go:42", after := #[{ on := 11, ground := Go.Ground.data }, { on := 11, ground := Go.Ground.chain }, { on := 0, ground := Go.Ground.phase }, { on := 1, ground := Go.Ground.phase }, { on := 2, ground := Go.Ground.phase }, { on := 3, ground := Go.Ground.phase }, { on := 4, ground := Go.Ground.phase }, { on := 5, ground := Go.Ground.phase }, { on := 6, ground := Go.Ground.phase }, { on := 7, ground := Go.Ground.phase }, { on := 8, ground := Go.Ground.phase }, { on := 9, ground := Go.Ground.phase }, { on := 10, ground := Go.Ground.phase }, { on := 11, ground := Go.Ground.phase }], guard := none }
abbrev uC0 : Oper := { dst := some 56, op := Go.Op.fieldAddr 24 (Go.Operand.tmp 3) 3, type := 0, pos := "ref.go:43", after := #[], guard := none }
abbrev uC1 : Oper := { dst := some 57, op := Go.Op.load 22 (Go.Operand.tmp 56), type := 22, pos := "ref.go:43", after := #[{ on := 0, ground := Go.Ground.data }], guard := none }
abbrev uC2 : Oper := { dst := some 58, op := Go.Op.fieldAddr 24 (Go.Operand.tmp 3) 2, type := 0, pos := "ref.go:43", after := #[], guard := none }
abbrev uC3 : Oper := { dst := some 59, op := Go.Op.load 22 (Go.Operand.tmp 58), type := 22, pos := "ref.go:43", after := #[{ on := 2, ground := Go.Ground.data }], guard := none }
abbrev uC4 : Oper := { dst := some 60, op := Go.Op.indexAddr 22 (Go.Operand.tmp 59) (Go.Operand.const (Go.Value.int Go.IntKind.i64 0)), type := 0, pos := "ref.go:43", after := #[{ on := 3, ground := Go.Ground.data }], guard := none }
abbrev uC5 : Oper := { dst := some 61, op := Go.Op.fieldAddr 51 (Go.Operand.tmp 60) 0, type := 0, pos := "ref.go:43", after := #[{ on := 4, ground := Go.Ground.data }], guard := none }
abbrev uC6 : Oper := { dst := some 62, op := Go.Op.load 3 (Go.Operand.tmp 61), type := 3, pos := "ref.go:43", after := #[{ on := 5, ground := Go.Ground.data }], guard := none }
abbrev uC7 : Oper := { dst := some 63, op := Go.Op.call { callee := Go.Callee.value (Go.Operand.func 81), args := #[Go.Operand.tmp 57, Go.Operand.tmp 62, Go.Operand.const (Go.Value.int Go.IntKind.i64 3652424)], argTypes := #[22, 3, 3] }, type := 22, pos := "ref.go:43", after := #[{ on := 1, ground := Go.Ground.data }, { on := 6, ground := Go.Ground.data }], guard := none }
abbrev uC8 : Oper := { dst := some 5, op := Go.Op.assign (Go.Operand.tmp 63), type := 22, pos := "ref.go:43", after := #[{ on := 7, ground := Go.Ground.data }, { on := 7, ground := Go.Ground.chain }, { on := 0, ground := Go.Ground.phase }, { on := 1, ground := Go.Ground.phase }, { on := 2, ground := Go.Ground.phase }, { on := 3, ground := Go.Ground.phase }, { on := 4, ground := Go.Ground.phase }, { on := 5, ground := Go.Ground.phase }, { on := 6, ground := Go.Ground.phase }, { on := 7, ground := Go.Ground.phase }], guard := none }
theorem LeafOk.kp4 {w : World} {f : LF} {va vb : Value} (h : LeafOk w f va vb) {B : Nat} {t : TypeId} {x : Bool} {y : Int} {a b : Option Addr} {n c m d : Nat} {fr : Nat × Nat}
    (hB : w.heap[B]? = some (.cells #[.bool x, .int .i64 y, .slice a n c, .slice b m d] t fr)) {x0 x1 x2 x3 : Value} : LeafOk ((((w.setCell ⟨B, 0, none⟩ x0).setCell ⟨B, 1, none⟩ x1).setCell ⟨B, 2, none⟩ x2).setCell ⟨B, 3, none⟩ x3) f va vb :=
  ⟨h.a.off hB (fun k o e => set4_cell w B x0 x1 x2 x3 k o e), h.b.off hB (fun k o e => set4_cell w B x0 x1 x2 x3 k o e), h.ia, h.ib, h.na, h.nb⟩
set_option maxHeartbeats 16000000 in
set_option maxRecDepth 100000 in
theorem refTidy_1 (spg : Bool) (ug : Int) (ag bg : List R) (iag : I64R ag) (ibg : I64R bg) (f : LF) (va vb : Value) (w : World) (h : LeafOk w f va vb) (hf : asL f = ⟨spg, ug, ag, bg⟩) (h0 : ag.length = 0) :
    Calls Tryz.prog 30 #[leafV f va vb] w fun e w' => ∃ va' vb', e = .returned (leafV (lf0) va' vb') ∧ LeafOk w' (lf0) va' vb' ∧ Kp w w' := by
  have C := Lib.hid (fun w1 (kk : Kp w w1) => refAs_any f va vb w1 (h.kp kk))
  rw [hf] at C
  clear hf
  obtain ⟨sp, u, a, b⟩ := f
  obtain ⟨ad, ca, rfl⟩ := h.a.slice
  obtain ⟨bd, cb, rfl⟩ := h.b.slice
  simp only [leafV] at C ⊢
  have K0 := Lib.hid ((Kp.alloc w (.cells #[.bool sp, .int .i64 u, .slice ad a.length ca, .slice bd b.length cb] 24)).trans (Kp.alloc _ (.cells #[.bool false, .int .i64 0, .slice none 0 0, .slice none 0 0] 24)))
  clear h
  have q0 : ((ag.length : Int) == 0) = true := by rw [h0]; rfl
  clear h0
  go_enter Tryz.func30, Tryz.ntmps30
  go_wp2_with fail
  refine (C.out _ K0.out).mono ?_
  rintro e w1 ⟨ga, gb, rfl, okg, kk⟩
  have hB := (kk.block (w.heap.size + 1) (by simp)).trans (heap_at (w.alloc _) (.cells #[.bool false, .int .i64 0, .slice none 0 0, .slice none 0 0] 24 (0, 0)) (w.heap.size + 1) (by simp))
  have s1 := kk.size
  simp at s1
  have K1 := Lib.hid (K0.out.trans kk)
  clear kk C
  obtain ⟨adg, cag, rfl⟩ := okg.a.slice
  obtain ⟨bdg, cbg, rfl⟩ := okg.b.slice
  have na := okg.na
  have nb := okg.nb
  simp only at na nb
  obtain ⟨V, hV⟩ : ∃ x, x = w1.alloc (.cells #[.bool spg, .int .i64 ug, .slice adg ag.length cag, .slice bdg bg.length cbg] 24) := ⟨_, rfl⟩
  have ka : Kp w1 V := by rw [hV]; exact Kp.alloc _ _
  have hgq : V.heap[w1.heap.size]? = some (.cells #[.bool spg, .int .i64 ug, .slice adg ag.length cag, .slice bdg bg.length cbg] 24 (0, 0)) := by rw [hV]; exact heap_at _ _ _ rfl
  have g0 : V.cell? ⟨w1.heap.size, 0, none⟩ = some (.bool spg) := by simp [World.cell?, hgq]
  have g1 : V.cell? ⟨w1.heap.size, 1, none⟩ = some (.int .i64 ug) := by simp [World.cell?, hgq]
  have g2 : V.cell? ⟨w1.heap.size, 2, none⟩ = some (.slice adg ag.length cag) := by simp [World.cell?, hgq]
  have g3 : V.cell? ⟨w1.heap.size, 3, none⟩ = some (.slice bdg bg.length cbg) := by simp [World.cell?, hgq]
  have HB := Lib.hid (fun w' (k : Kp V w') => show w'.cell? ⟨w1.heap.size, 0, none⟩ = some (.bool spg) ∧ w'.cell? ⟨w1.heap.size, 1, none⟩ = some (.int .i64 ug) ∧ w'.cell? ⟨w1.heap.size, 2, none⟩ = some (.slice adg ag.length cag) ∧ w'.cell? ⟨w1.heap.size, 3, none⟩ = some (.slice bdg bg.length cbg) ∧ Kp V w' from ⟨cell_up k g0, cell_up k g1, cell_up k g2, cell_up k g3, k⟩)
  have hBV := heap_block ka hB
  have KV := Lib.hid (K1.out.trans ka)
  have HV := Lib.hid hV
  have OKV := Lib.hid (okg.kp ka)
  clear hV ka hgq g0 g1 g2 g3  hB okg
  go_wp2_with fail
  rw [← HV.out]
  refine wp_region_held_drew (S := fun w' => w'.cell? ⟨w1.heap.size, 0, none⟩ = some (.bool spg) ∧ w'.cell? ⟨w1.heap.size, 1, none⟩ = some (.int .i64 ug) ∧ w'.cell? ⟨w1.heap.size, 2, none⟩ = some (.slice adg ag.length cag) ∧ w'.cell? ⟨w1.heap.size, 3, none⟩ = some (.slice bdg bg.length cbg) ∧ Kp V w') (by kernel_rfl) ?_ (fun hHeld0 => ?_)
  · (try dsimp only); exact HB.out _ (by first | assumption | exact Kp.drew _)
  refine tkW (v := ?_) 0 uA0 rfl (by kernel_rfl) (by kernel_rfl) (by kernel_rfl) (fun _ _ _ h => h) (by rfl) ?_ (by assumption) ?_
  rotate_left
  · intro w hSw; (try dsimp only at hSw); go_simp; (try with_reducible rfl)
  (try simp only [Act.put, uA0, List.setIfInBounds_toArray, List.set_cons_zero, List.set_cons_succ])
  refine tkW (v := ?_) 1 uA1 rfl (by kernel_rfl) (by kernel_rfl) (by kernel_rfl) (fun _ _ _ h => h) (by rfl) ?_ (by assumption) ?_
  rotate_left
  · intro w hSw; (try dsimp only at hSw); go_simp; (try with_reducible rfl)
  (try simp only [Act.put, uA1, List.setIfInBounds_toArray, List.set_cons_zero, List.set_cons_succ])
  refine tkW (v := ?_) 2 uA2 rfl (by kernel_rfl) (by kernel_rfl) (by kernel_rfl) (fun _ _ _ h => h) (by rfl) ?_ (by assumption) ?_
  rotate_left
  · intro w hSw; (try dsimp only at hSw); go_simp; (try with_reducible rfl)
  (try simp only [Act.put, uA2, List.setIfInBounds_toArray, List.set_cons_zero, List.set_cons_succ])
  refine tkW (v := ?_) 3 uA3 rfl (by kernel_rfl) (by kernel_rfl) (by kernel_rfl) (fun _ _ _ h => h) (by rfl) ?_ (by assumption) ?_
  rotate_left
  · intro w hSw; (try dsimp only at hSw); go_simp; (try with_reducible rfl)
  (try simp only [Act.put, uA3, List.setIfInBounds_toArray, List.set_cons_zero, List.set_cons_succ])
  refine tkW (v := ?_) 4 uA4 rfl (by kernel_rfl) (by kernel_rfl) (by kernel_rfl) (fun _ _ _ h => h) (by rfl) ?_ (by assumption) ?_
  rotate_left
  · intro w hSw; (try dsimp only at hSw); go_simp; (try with_reducible rfl)
  (try simp only [Act.put, uA4, List.setIfInBounds_toArray, List.set_cons_zero, List.set_cons_succ])
  refine tkU 5 uA5 rfl (by kernel_rfl) (by kernel_rfl) (by kernel_rfl) (fun _ _ _ h => h) (by rfl) (by assumption) ?_
  (try simp only [Act.put, uA5, List.setIfInBounds_toArray, List.set_cons_zero, List.set_cons_succ])
  refine tkU 6 uA6 rfl (by kernel_rfl) (by kernel_rfl) (by kernel_rfl) (fun _ _ _ h => h) (by rfl) (by assumption) ?_
  (try simp only [Act.put, uA6, List.setIfInBounds_toArray, List.set_cons_zero, List.set_cons_succ])
  refine tkU 7 uA7 rfl (by kernel_rfl) (by kernel_rfl) (by kernel_rfl) (fun _ _ _ h => h) (by rfl) (by assumption) ?_
  (try simp only [Act.put, uA7, List.setIfInBounds_toArray, List.set_cons_zero, List.set_cons_succ])
  refine tkU 8 uA8 rfl (by kernel_rfl) (by kernel_rfl) (by kernel_rfl) (fun _ _ _ h => h) (by rfl) (by assumption) ?_
  (try simp only [Act.put, uA8, List.setIfInBounds_toArray, List.set_cons_zero, List.set_cons_succ])
  refine tkU 9 uA9 rfl (by kernel_rfl) (by kernel_rfl) (by kernel_rfl) (fun _ _ _ h => h) (by rfl) (by assumption) ?_
  (try simp only [Act.put, uA9, List.setIfInBounds_toArray, List.set_cons_zero, List.set_cons_succ])
  refine tkU 10 uA10 rfl (by kernel_rfl) (by kernel_rfl) (by kernel_rfl) (fun _ _ _ h => h) (by rfl) (by assumption) ?_
  (try simp only [Act.put, uA10, List.setIfInBounds_toArray, List.set_cons_zero, List.set_cons_succ])
  refine tkU 11 uA11 rfl (by kernel_rfl) (by kernel_rfl) (by kernel_rfl) (fun _ _ _ h => h) (by rfl) (by assumption) ?_
  (try simp only [Act.put, uA11, List.setIfInBounds_toArray, List.set_cons_zero, List.set_cons_succ])
  refine tkU 12 uA12 rfl (by kernel_rfl) (by kernel_rfl) (by kernel_rfl) (fun _ _ _ h => h) (by rfl) (by assumption) ?_
  (try simp only [Act.put, uA12, List.setIfInBounds_toArray, List.set_cons_zero, List.set_cons_succ])
  refine tkU 13 uA13 rfl (by kernel_rfl) (by kernel_rfl) (by kernel_rfl) (fun _ _ _ h => h) (by rfl) (by assumption) ?_
  (try simp only [Act.put, uA13, List.setIfInBounds_toArray, List.set_cons_zero, List.set_cons_succ])
  refine tkU 14 uA14 rfl (by kernel_rfl) (by kernel_rfl) (by kernel_rfl) (fun _ _ _ h => h) (by rfl) (by assumption) ?_
  (try simp only [Act.put, uA14, List.setIfInBounds_toArray, List.set_cons_zero, List.set_cons_succ])
  refine tkU 15 uA15 rfl (by kernel_rfl) (by kernel_rfl) (by kernel_rfl) (fun _ _ _ h => h) (by rfl) (by assumption) ?_
  (try simp only [Act.put, uA15, List.setIfInBounds_toArray, List.set_cons_zero, List.set_cons_succ])
  refine tkU 16 uA16 rfl (by kernel_rfl) (by kernel_rfl) (by kernel_rfl) (fun _ _ _ h => h) (by rfl) (by assumption) ?_
  (try simp only [Act.put, uA16, List.setIfInBounds_toArray, List.set_cons_zero, List.set_cons_succ])
  refine tkU 17 uA17 rfl (by kernel_rfl) (by kernel_rfl) (by kernel_rfl) (fun _ _ _ h => h) (by rfl) (by assumption) ?_
  (try simp only [Act.put, uA17, List.setIfInBounds_toArray, List.set_cons_zero, List.set_cons_succ])
  refine tkU 18 uA18 rfl (by kernel_rfl) (by kernel_rfl) (by kernel_rfl) (fun _ _ _ h => h) (by rfl) (by assumption) ?_
  (try simp only [Act.put, uA18, List.setIfInBounds_toArray, List.set_cons_zero, List.set_cons_succ])
  refine tkU 19 uA19 rfl (by kernel_rfl) (by kernel_rfl) (by kernel_rfl) (fun _ _ _ h => h) (by rfl) (by assumption) ?_
  (try simp only [Act.put, uA19, List.setIfInBounds_toArray, List.set_cons_zero, List.set_cons_succ])
  refine tkU 20 uA20 rfl (by kernel_rfl) (by kernel_rfl) (by kernel_rfl) (fun _ _ _ h => h) (by rfl) (by assumption) ?_
  (try simp only [Act.put, uA20, List.setIfInBounds_toArray, List.set_cons_zero, List.set_cons_succ])
  refine tkU 21 uA21 rfl (by kernel_rfl) (by kernel_rfl) (by kernel_rfl) (fun _ _ _ h => h) (by rfl) (by assumption) ?_
  (try simp only [Act.put, uA21, List.setIfInBounds_toArray, List.set_cons_zero, List.set_cons_succ])
  refine tkU 22 uA22 rfl (by kernel_rfl) (by kernel_rfl) (by kernel_rfl) (fun _ _ _ h => h) (by rfl) (by assumption) ?_
  (try simp only [Act.put, uA22, List.setIfInBounds_toArray, List.set_cons_zero, List.set_cons_succ])
  refine tkU 23 uA23 rfl (by kernel_rfl) (by kernel_rfl) (by kernel_rfl) (fun _ _ _ h => h) (by rfl) (by assumption) ?_
  (try simp only [Act.put, uA23, List.setIfInBounds_toArray, List.set_cons_zero, List.set_cons_succ])
  refine tkU 24 uA24 rfl (by kernel_rfl) (by kernel_rfl) (by kernel_rfl) (fun _ _ _ h => h) (by rfl) (by assumption) ?_
  (try simp only [Act.put, uA24, List.setIfInBounds_toArray, List.set_cons_zero, List.set_cons_succ])
  refine tkU 25 uA25 rfl (by kernel_rfl) (by kernel_rfl) (by kernel_rfl) (fun _ _ _ h => h) (by rfl) (by assumption) ?_
  (try simp only [Act.put, uA25, List.setIfInBounds_toArray, List.set_cons_zero, List.set_cons_succ])
  refine tkU 26 uA26 rfl (by kernel_rfl) (by kernel_rfl) (by kernel_rfl) (fun _ _ _ h => h) (by rfl) (by assumption) ?_
  (try simp only [Act.put, uA26, List.setIfInBounds_toArray, List.set_cons_zero, List.set_cons_succ])
  refine tkU 27 uA27 rfl (by kernel_rfl) (by kernel_rfl) (by kernel_rfl) (fun _ _ _ h => h) (by rfl) (by assumption) ?_
  (try simp only [Act.put, uA27, List.setIfInBounds_toArray, List.set_cons_zero, List.set_cons_succ])
  refine tkU 28 uA28 rfl (by kernel_rfl) (by kernel_rfl) (by kernel_rfl) (fun _ _ _ h => h) (by rfl) (by assumption) ?_
  (try simp only [Act.put, uA28, List.setIfInBounds_toArray, List.set_cons_zero, List.set_cons_succ])
  refine tkU 29 uA29 rfl (by kernel_rfl) (by kernel_rfl) (by kernel_rfl) (fun _ _ _ h => h) (by rfl) (by assumption) ?_
  (try simp only [Act.put, uA29, List.setIfInBounds_toArray, List.set_cons_zero, List.set_cons_succ])
  refine tkW (v := ?_) 30 uA30 rfl (by kernel_rfl) (by kernel_rfl) (by kernel_rfl) (fun _ _ _ h => h) (by rfl) ?_ (by assumption) ?_
  rotate_left
  · intro w hSw; (try dsimp only at hSw); go_simp; (try with_reducible rfl)
  (try simp only [Act.put, uA30, List.setIfInBounds_toArray, List.set_cons_zero, List.set_cons_succ])
  refine wpAnyH_done (by kernel_rfl) ?_ _
  obtain ⟨X, hX⟩ : ∃ x, x = V.drew := ⟨_, rfl⟩
  have hBX : X.heap[w.heap.size + 1]? = some (.cells #[.bool false, .int .i64 0, .slice none 0 0, .slice none 0 0] 24 (0, 0)) := by rw [hX]; exact hBV
  have kx : Kp V X := by rw [hX]; exact Kp.drew _
  have KX := Lib.hid kx
  have KWX := Lib.hid (KV.out.trans kx)
  rw [← hX]
  clear hX hBV kx
  obtain ⟨c0, c1, c2, c3, _⟩ := HB.out X KX.out
  have r0 : X.cell? ⟨w.heap.size + 1, 0, none⟩ = some (.bool false) := by simp [World.cell?, hBX]
  have f0 : X.frozen? ⟨w.heap.size + 1, 0, none⟩ = false := by simp [World.frozen?, hBX]
  have r1 : X.cell? ⟨w.heap.size + 1, 1, none⟩ = some (.int .i64 0) := by simp [World.cell?, hBX]
  have f1 : X.frozen? ⟨w.heap.size + 1, 1, none⟩ = false := by simp [World.frozen?, hBX]
  have r2 : X.cell? ⟨w.heap.size + 1, 2, none⟩ = some (.slice none 0 0) := by simp [World.cell?, hBX]
  have f2 : X.frozen? ⟨w.heap.size + 1, 2, none⟩ = false := by simp [World.frozen?, hBX]
  have r3 : X.cell? ⟨w.heap.size + 1, 3, none⟩ = some (.slice none 0 0) := by simp [World.cell?, hBX]
  have f3 : X.frozen? ⟨w.heap.size + 1, 3, none⟩ = false := by simp [World.frozen?, hBX]
  have sx := KWX.out.size
  go_wp2
  have RD0 := set4_read hBX (.bool false) (.int .i64 0) (.slice none 0 0) (.slice none 0 0) (Kp.refl _)
  exact bodyPost_ret (v := .agg #[.bool false, .int .i64 0, .slice none 0 0, .slice none 0 0]) (by simp [results, Tryz.f30, go_sem, RD0]) rfl ⟨.slice none 0 0, .slice none 0 0, rfl, lf0_ok _, set4_below KWX.out (w.heap.size + 1) (by omega) _ _ _ _⟩
set_option maxHeartbeats 16000000 in
set_option maxRecDepth 100000 in
theorem refTidy_2 (spg : Bool) (ug : Int) (ag bg : List R) (iag : I64R ag) (ibg : I64R bg) (f : LF) (va vb : Value) (w : World) (h : LeafOk w f va vb) (hf : asL f = ⟨spg, ug, ag, bg⟩) (h0 : ag.length ≠ 0) (hs : spg = false) :
    Calls Tryz.prog 30 #[leafV f va vb] w fun e w' => ∃ va' vb', e = .returned (leafV (⟨false, ug, ag, bg⟩) va' vb') ∧ LeafOk w' (⟨false, ug, ag, bg⟩) va' vb' ∧ Kp w w' := by
  have C := Lib.hid (fun w1 (kk : Kp w w1) => refAs_any f va vb w1 (h.kp kk))
  rw [hf] at C
  clear hf
  obtain ⟨sp, u, a, b⟩ := f
  obtain ⟨ad, ca, rfl⟩ := h.a.slice
  obtain ⟨bd, cb, rfl⟩ := h.b.slice
  simp only [leafV] at C ⊢
  have K0 := Lib.hid ((Kp.alloc w (.cells #[.bool sp, .int .i64 u, .slice ad a.length ca, .slice bd b.length cb] 24)).trans (Kp.alloc _ (.cells #[.bool false, .int .i64 0, .slice none 0 0, .slice none 0 0] 24)))
  clear h
  subst hs
  have q0 : ((ag.length : Int) == 0) = false := beq_eq_false_iff_ne.2 (by omega)
  go_enter Tryz.func30, Tryz.ntmps30
  go_wp2_with fail
  refine (C.out _ K0.out).mono ?_
  rintro e w1 ⟨ga, gb, rfl, okg, kk⟩
  have hB := (kk.block (w.heap.size + 1) (by simp)).trans (heap_at (w.alloc _) (.cells #[.bool false, .int .i64 0, .slice none 0 0, .slice none 0 0] 24 (0, 0)) (w.heap.size + 1) (by simp))
  have s1 := kk.size
  simp at s1
  have K1 := Lib.hid (K0.out.trans kk)
  clear kk C
  obtain ⟨ba, oa, cag, ev, x0, x1⟩ := ends_at okg.a (by simp only; omega)
  subst ev
  obtain ⟨bdg, cbg, rfl⟩ := okg.b.slice
  have na := okg.na
  have nb := okg.nb
  simp only at na nb x0 x1
  obtain ⟨V, hV⟩ : ∃ x, x = w1.alloc (.cells #[.bool false, .int .i64 ug, .slice (some ⟨ba, oa, none⟩) ag.length cag, .slice bdg bg.length cbg] 24) := ⟨_, rfl⟩
  have ka : Kp w1 V := by rw [hV]; exact Kp.alloc _ _
  have hgq : V.heap[w1.heap.size]? = some (.cells #[.bool false, .int .i64 ug, .slice (some ⟨ba, oa, none⟩) ag.length cag, .slice bdg bg.length cbg] 24 (0, 0)) := by rw [hV]; exact heap_at _ _ _ rfl
  have g0 : V.cell? ⟨w1.heap.size, 0, none⟩ = some (.bool false) := by simp [World.cell?, hgq]
  have g1 : V.cell? ⟨w1.heap.size, 1, none⟩ = some (.int .i64 ug) := by simp [World.cell?, hgq]
  have g2 : V.cell? ⟨w1.heap.size, 2, none⟩ = some (.slice (some ⟨ba, oa, none⟩) ag.length cag) := by simp [World.cell?, hgq]
  have g3 : V.cell? ⟨w1.heap.size, 3, none⟩ = some (.slice bdg bg.length cbg) := by simp [World.cell?, hgq]
  have HB := Lib.hid (fun w' (k : Kp V w') => show w'.cell? ⟨w1.heap.size, 0, none⟩ = some (.bool false) ∧ w'.cell? ⟨w1.heap.size, 1, none⟩ = some (.int .i64 ug) ∧ w'.cell? ⟨w1.heap.size, 2, none⟩ = some (.slice (some ⟨ba, oa, none⟩) ag.length cag) ∧ w'.cell? ⟨w1.heap.size, 3, none⟩ = some (.slice bdg bg.length cbg) ∧ w'.cell? ⟨ba, oa, none⟩ = some (.int .i64 (leastR ag)) ∧ w'.cell? ⟨ba, oa + (ag.length - 1) * 2 + 1, none⟩ = some (.int .i64 (greatR ag)) ∧ Kp V w' from ⟨cell_up k g0, cell_up k g1, cell_up k g2, cell_up k g3, cell_up (ka.trans k) x0, cell_up (ka.trans k) x1, k⟩)
  have hBV := heap_block ka hB
  have KV := Lib.hid (K1.out.trans ka)
  have HV := Lib.hid hV
  have OKV := Lib.hid (okg.kp ka)
  have wz : 0 < ag.length := by omega
  clear hV ka hgq g0 g1 g2 g3 x0 x1 hB okg
  go_wp2_with fail
  rw [← HV.out]
  refine wp_region_held_drew (S := fun w' => w'.cell? ⟨w1.heap.size, 0, none⟩ = some (.bool false) ∧ w'.cell? ⟨w1.heap.size, 1, none⟩ = some (.int .i64 ug) ∧ w'.cell? ⟨w1.heap.size, 2, none⟩ = some (.slice (some ⟨ba, oa, none⟩) ag.length cag) ∧ w'.cell? ⟨w1.heap.size, 3, none⟩ = some (.slice bdg bg.length cbg) ∧ w'.cell? ⟨ba, oa, none⟩ = some (.int .i64 (leastR ag)) ∧ w'.cell? ⟨ba, oa + (ag.length - 1) * 2 + 1, none⟩ = some (.int .i64 (greatR ag)) ∧ Kp V w') (by kernel_rfl) ?_ (fun hHeld0 => ?_)
  · (try dsimp only); exact HB.out _ (by first | assumption | exact Kp.drew _)
  refine tkW (v := ?_) 0 uA0 rfl (by kernel_rfl) (by kernel_rfl) (by kernel_rfl) (fun _ _ _ h => h) (by rfl) ?_ (by assumption) ?_
  rotate_left
  · intro w hSw; (try dsimp only at hSw); go_simp; (try with_reducible rfl)
  (try simp only [Act.put, uA0, List.setIfInBounds_toArray, List.set_cons_zero, List.set_cons_succ])
  refine tkW (v := ?_) 1 uA1 rfl (by kernel_rfl) (by kernel_rfl) (by kernel_rfl) (fun _ _ _ h => h) (by rfl) ?_ (by assumption) ?_
  rotate_left
  · intro w hSw; (try dsimp only at hSw); go_simp; (try with_reducible rfl)
  (try simp only [Act.put, uA1, List.setIfInBounds_toArray, List.set_cons_zero, List.set_cons_succ])
  refine tkW (v := ?_) 2 uA2 rfl (by kernel_rfl) (by kernel_rfl) (by kernel_rfl) (fun _ _ _ h => h) (by rfl) ?_ (by assumption) ?_
  rotate_left
  · intro w hSw; (try dsimp only at hSw); go_simp; (try with_reducible rfl)
  (try simp only [Act.put, uA2, List.setIfInBounds_toArray, List.set_cons_zero, List.set_cons_succ])
  refine tkW (v := ?_) 3 uA3 rfl (by kernel_rfl) (by kernel_rfl) (by kernel_rfl) (fun _ _ _ h => h) (by rfl) ?_ (by assumption) ?_
  rotate_left
  · intro w hSw; (try dsimp only at hSw); go_simp; (try with_reducible rfl)
  (try simp only [Act.put, uA3, List.setIfInBounds_toArray, List.set_cons_zero, List.set_cons_succ])
  refine tkW (v := ?_) 4 uA4 rfl (by kernel_rfl) (by kernel_rfl) (by kernel_rfl) (fun _ _ _ h => h) (by rfl) ?_ (by assumption) ?_
  rotate_left
  · intro w hSw; (try dsimp only at hSw); go_simp; (try with_reducible rfl)
  (try simp only [Act.put, uA4, List.setIfInBounds_toArray, List.set_cons_zero, List.set_cons_succ])
  refine tkW (v := ?_) 5 uA5 rfl (by kernel_rfl) (by kernel_rfl) (by kernel_rfl) (fun _ _ _ h => h) (by rfl) ?_ (by assumption) ?_
  rotate_left
  · intro w hSw; (try dsimp only at hSw); go_simp; (try with_reducible rfl)
  (try simp only [Act.put, uA5, List.setIfInBounds_toArray, List.set_cons_zero, List.set_cons_succ])
  refine tkW (v := ?_) 6 uA6 rfl (by kernel_rfl) (by kernel_rfl) (by kernel_rfl) (fun _ _ _ h => h) (by rfl) ?_ (by assumption) ?_
  rotate_left
  · intro w hSw; (try dsimp only at hSw); go_simp; (try with_reducible rfl)
  (try simp only [Act.put, uA6, List.setIfInBounds_toArray, List.set_cons_zero, List.set_cons_succ])
  refine tkW (v := ?_) 7 uA7 rfl (by kernel_rfl) (by kernel_rfl) (by kernel_rfl) (fun _ _ _ h => h) (by rfl) ?_ (by assumption) ?_
  rotate_left
  · intro w hSw; (try dsimp only at hSw); go_simp; (try with_reducible rfl)
  (try simp only [Act.put, uA7, List.setIfInBounds_toArray, List.set_cons_zero, List.set_cons_succ])
  refine tkU 8 uA8 rfl (by kernel_rfl) (by kernel_rfl) (by kernel_rfl) (fun _ _ _ h => h) (by rfl) (by assumption) ?_
  (try simp only [Act.put, uA8, List.setIfInBounds_toArray, List.set_cons_zero, List.set_cons_succ])
  refine tkU 9 uA9 rfl (by kernel_rfl) (by kernel_rfl) (by kernel_rfl) (fun _ _ _ h => h) (by rfl) (by assumption) ?_
  (try simp only [Act.put, uA9, List.setIfInBounds_toArray, List.set_cons_zero, List.set_cons_succ])
  refine tkU 10 uA10 rfl (by kernel_rfl) (by kernel_rfl) (by kernel_rfl) (fun _ _ _ h => h) (by rfl) (by assumption) ?_
  (try simp only [Act.put, uA10, List.setIfInBounds_toArray, List.set_cons_zero, List.set_cons_succ])
  refine tkU 11 uA11 rfl (by kernel_rfl) (by kernel_rfl) (by kernel_rfl) (fun _ _ _ h => h) (by rfl) (by assumption) ?_
  (try simp only [Act.put, uA11, List.setIfInBounds_toArray, List.set_cons_zero, List.set_cons_succ])
  refine tkU 12 uA12 rfl (by kernel_rfl) (by kernel_rfl) (by kernel_rfl) (fun _ _ _ h => h) (by rfl) (by assumption) ?_
  (try simp only [Act.put, uA12, List.setIfInBounds_toArray, List.set_cons_zero, List.set_cons_succ])
  refine tkU 13 uA13 rfl (by kernel_rfl) (by kernel_rfl) (by kernel_rfl) (fun _ _ _ h => h) (by rfl) (by assumption) ?_
  (try simp only [Act.put, uA13, List.setIfInBounds_toArray, List.set_cons_zero, List.set_cons_succ])
  refine tkU 14 uA14 rfl (by kernel_rfl) (by kernel_rfl) (by kernel_rfl) (fun _ _ _ h => h) (by rfl) (by assumption) ?_
  (try simp only [Act.put, uA14, List.setIfInBounds_toArray, List.set_cons_zero, List.set_cons_succ])
  refine tkU 15 uA15 rfl (by kernel_rfl) (by kernel_rfl) (by kernel_rfl) (fun _ _ _ h => h) (by rfl) (by assumption) ?_
  (try simp only [Act.put, uA15, List.setIfInBounds_toArray, List.set_cons_zero, List.set_cons_succ])
  refine tkU 16 uA16 rfl (by kernel_rfl) (by kernel_rfl) (by kernel_rfl) (fun _ _ _ h => h) (by rfl) (by assumption) ?_
  (try simp only [Act.put, uA16, List.setIfInBounds_toArray, List.set_cons_zero, List.set_cons_succ])
  refine tkU 17 uA17 rfl (by kernel_rfl) (by kernel_rfl) (by kernel_rfl) (fun _ _ _ h => h) (by rfl) (by assumption) ?_
  (try simp only [Act.put, uA17, List.setIfInBounds_toArray, List.set_cons_zero, List.set_cons_succ])
  refine tkU 18 uA18 rfl (by kernel_rfl) (by kernel_rfl) (by kernel_rfl) (fun _ _ _ h => h) (by rfl) (by assumption) ?_
  (try simp only [Act.put, uA18, List.setIfInBounds_toArray, List.set_cons_zero, List.set_cons_succ])
  refine tkU 19 uA19 rfl (by kernel_rfl) (by kernel_rfl) (by kernel_rfl) (fun _ _ _ h => h) (by rfl) (by assumption) ?_
  (try simp only [Act.put, uA19, List.setIfInBounds_toArray, List.set_cons_zero, List.set_cons_succ])
  refine tkU 20 uA20 rfl (by kernel_rfl) (by kernel_rfl) (by kernel_rfl) (fun _ _ _ h => h) (by rfl) (by assumption) ?_
  (try simp only [Act.put, uA20, List.setIfInBounds_toArray, List.set_cons_zero, List.set_cons_succ])
  refine tkU 21 uA21 rfl (by kernel_rfl) (by kernel_rfl) (by kernel_rfl) (fun _ _ _ h => h) (by rfl) (by assumption) ?_
  (try simp only [Act.put, uA21, List.setIfInBounds_toArray, List.set_cons_zero, List.set_cons_succ])
  refine tkU 22 uA22 rfl (by kernel_rfl) (by kernel_rfl) (by kernel_rfl) (fun _ _ _ h => h) (by rfl) (by assumption) ?_
  (try simp only [Act.put, uA22, List.setIfInBounds_toArray, List.set_cons_zero, List.set_cons_succ])
  refine tkU 23 uA23 rfl (by kernel_rfl) (by kernel_rfl) (by kernel_rfl) (fun _ _ _ h => h) (by rfl) (by assumption) ?_
  (try simp only [Act.put, uA23, List.setIfInBounds_toArray, List.set_cons_zero, List.set_cons_succ])
  refine tkU 24 uA24 rfl (by kernel_rfl) (by kernel_rfl) (by kernel_rfl) (fun _ _ _ h => h) (by rfl) (by assumption) ?_
  (try simp only [Act.put, uA24, List.setIfInBounds_toArray, List.set_cons_zero, List.set_cons_succ])
  refine tkU 25 uA25 rfl (by kernel_rfl) (by kernel_rfl) (by kernel_rfl) (fun _ _ _ h => h) (by rfl) (by assumption) ?_
  (try simp only [Act.put, uA25, List.setIfInBounds_toArray, List.set_cons_zero, List.set_cons_succ])
  refine tkU 26 uA26 rfl (by kernel_rfl) (by kernel_rfl) (by kernel_rfl) (fun _ _ _ h => h) (by rfl) (by assumption) ?_
  (try simp only [Act.put, uA26, List.setIfInBounds_toArray, List.set_cons_zero, List.set_cons_succ])
  refine tkU 27 uA27 rfl (by kernel_rfl) (by kernel_rfl) (by kernel_rfl) (fun _ _ _ h => h) (by rfl) (by assumption) ?_
  (try simp only [Act.put, uA27, List.setIfInBounds_toArray, List.set_cons_zero, List.set_cons_succ])
  refine tkU 28 uA28 rfl (by kernel_rfl) (by kernel_rfl) (by kernel_rfl) (fun _ _ _ h => h) (by rfl) (by assumption) ?_
  (try simp only [Act.put, uA28, List.setIfInBounds_toArray, List.set_cons_zero, List.set_cons_succ])
  refine tkW (v := ?_) 29 uA29 rfl (by kernel_rfl) (by kernel_rfl) (by kernel_rfl) (fun _ _ _ h => h) (by rfl) ?_ (by assumption) ?_
  rotate_left
  · intro w hSw; (try dsimp only at hSw); go_simp; (try with_reducible rfl)
  (try simp only [Act.put, uA29, List.setIfInBounds_toArray, List.set_cons_zero, List.set_cons_succ])
  refine tkW (v := ?_) 30 uA30 rfl (by kernel_rfl) (by kernel_rfl) (by kernel_rfl) (fun _ _ _ h => h) (by rfl) ?_ (by assumption) ?_
  rotate_left
  · intro w hSw; (try dsimp only at hSw); go_simp; (try with_reducible rfl)
  (try simp only [Act.put, uA30, List.setIfInBounds_toArray, List.set_cons_zero, List.set_cons_succ])
  refine wpAnyH_done (by kernel_rfl) ?_ _
  obtain ⟨X, hX⟩ : ∃ x, x = V.drew := ⟨_, rfl⟩
  have hBX : X.heap[w.heap.size + 1]? = some (.cells #[.bool false, .int .i64 0, .slice none 0 0, .slice none 0 0] 24 (0, 0)) := by rw [hX]; exact hBV
  have kx : Kp V X := by rw [hX]; exact Kp.drew _
  have KX := Lib.hid kx
  have KWX := Lib.hid (KV.out.trans kx)
  rw [← hX]
  clear hX hBV kx
  obtain ⟨c0, c1, c2, c3, c4, c5, _⟩ := HB.out X KX.out
  have r0 : X.cell? ⟨w.heap.size + 1, 0, none⟩ = some (.bool false) := by simp [World.cell?, hBX]
  have f0 : X.frozen? ⟨w.heap.size + 1, 0, none⟩ = false := by simp [World.frozen?, hBX]
  have r1 : X.cell? ⟨w.heap.size + 1, 1, none⟩ = some (.int .i64 0) := by simp [World.cell?, hBX]
  have f1 : X.frozen? ⟨w.heap.size + 1, 1, none⟩ = false := by simp [World.frozen?, hBX]
  have r2 : X.cell? ⟨w.heap.size + 1, 2, none⟩ = some (.slice none 0 0) := by simp [World.cell?, hBX]
  have f2 : X.frozen? ⟨w.heap.size + 1, 2, none⟩ = false := by simp [World.frozen?, hBX]
  have r3 : X.cell? ⟨w.heap.size + 1, 3, none⟩ = some (.slice none 0 0) := by simp [World.cell?, hBX]
  have f3 : X.frozen? ⟨w.heap.size + 1, 3, none⟩ = false := by simp [World.frozen?, hBX]
  have sx := KWX.out.size
  go_wp2
  have RD0 := set4_read hBX (.bool false) (.int .i64 ug) (.slice (some ⟨ba, oa, none⟩) ag.length cag) (.slice bdg bg.length cbg) (Kp.refl _)
  exact bodyPost_ret (v := .agg #[.bool false, .int .i64 ug, .slice (some ⟨ba, oa, none⟩) ag.length cag, .slice bdg bg.length cbg]) (by simp [results, Tryz.f30, go_sem, RD0]) rfl ⟨_, _, rfl, (OKV.out.kp KX.out).kp4 hBX, set4_below KWX.out (w.heap.size + 1) (by omega) _ _ _ _⟩
set_option maxHeartbeats 16000000 in
set_option maxRecDepth 100000 in
theorem refTidy_3 (spg : Bool) (ug : Int) (ag bg : List R) (iag : I64R ag) (ibg : I64R bg) (f : LF) (va vb : Value) (w : World) (h : LeafOk w f va vb) (hf : asL f = ⟨spg, ug, ag, bg⟩) (h0 : ag.length ≠ 0) (hs : spg = true) (h1 : bg.length = 0) :
    Calls Tryz.prog 30 #[leafV f va vb] w fun e w' => ∃ va' vb', e = .returned (leafV (lf0) va' vb') ∧ LeafOk w' (lf0) va' vb' ∧ Kp w w' := by
  have C := Lib.hid (fun w1 (kk : Kp w w1) => refAs_any f va vb w1 (h.kp kk))
  rw [hf] at C
  clear hf
  obtain ⟨sp, u, a, b⟩ := f
  obtain ⟨ad, ca, rfl⟩ := h.a.slice
  obtain ⟨bd, cb, rfl⟩ := h.b.slice
  simp only [leafV] at C ⊢
  have K0 := Lib.hid ((Kp.alloc w (.cells #[.bool sp, .int .i64 u, .slice ad a.length ca, .slice bd b.length cb] 24)).trans (Kp.alloc _ (.cells #[.bool false, .int .i64 0, .slice none 0 0, .slice none 0 0] 24)))
  clear h
  subst hs
  have q1 : ((bg.length : Int) == 0) = true := by rw [h1]; rfl
  clear h1
  have q0 : ((ag.length : Int) == 0) = false := beq_eq_false_iff_ne.2 (by omega)
  go_enter Tryz.func30, Tryz.ntmps30
  go_wp2_with fail
  refine (C.out _ K0.out).mono ?_
  rintro e w1 ⟨ga, gb, rfl, okg, kk⟩
  have hB := (kk.block (w.heap.size + 1) (by simp)).trans (heap_at (w.alloc _) (.cells #[.bool false, .int .i64 0, .slice none 0 0, .slice none 0 0] 24 (0, 0)) (w.heap.size + 1) (by simp))
  have s1 := kk.size
  simp at s1
  have K1 := Lib.hid (K0.out.trans kk)
  clear kk C
  obtain ⟨ba, oa, cag, ev, x0, x1⟩ := ends_at okg.a (by simp only; omega)
  subst ev
  obtain ⟨bdg, cbg, rfl⟩ := okg.b.slice
  have na := okg.na
  have nb := okg.nb
  simp only at na nb x0 x1
  obtain ⟨V, hV⟩ : ∃ x, x = w1.alloc (.cells #[.bool true, .int .i64 ug, .slice (some ⟨ba, oa, none⟩) ag.length cag, .slice bdg bg.length cbg] 24) := ⟨_, rfl⟩
  have ka : Kp w1 V := by rw [hV]; exact Kp.alloc _ _
  have hgq : V.heap[w1.heap.size]? = some (.cells #[.bool true, .int .i64 ug, .slice (some ⟨ba, oa, none⟩) ag.length cag, .slice bdg bg.length cbg] 24 (0, 0)) := by rw [hV]; exact heap_at _ _ _ rfl
  have g0 : V.cell? ⟨w1.heap.size, 0, none⟩ = some (.bool true) := by simp [World.cell?, hgq]
  have g1 : V.cell? ⟨w1.heap.size, 1, none⟩ = some (.int .i64 ug) := by simp [World.cell?, hgq]
  have g2 : V.cell? ⟨w1.heap.size, 2, none⟩ = some (.slice (some ⟨ba, oa, none⟩) ag.length cag) := by simp [World.cell?, hgq]
  have g3 : V.cell? ⟨w1.heap.size, 3, none⟩ = some (.slice bdg bg.length cbg) := by simp [World.cell?, hgq]
  have HB := Lib.hid (fun w' (k : Kp V w') => show w'.cell? ⟨w1.heap.size, 0, none⟩ = some (.bool true) ∧ w'.cell? ⟨w1.heap.size, 1, none⟩ = some (.int .i64 ug) ∧ w'.cell? ⟨w1.heap.size, 2, none⟩ = some (.slice (some ⟨ba, oa, none⟩) ag.length cag) ∧ w'.cell? ⟨w1.heap.size, 3, none⟩ = some (.slice bdg bg.length cbg) ∧ w'.cell? ⟨ba, oa, none⟩ = some (.int .i64 (leastR ag)) ∧ w'.cell? ⟨ba, oa + (ag.length - 1) * 2 + 1, none⟩ = some (.int .i64 (greatR ag)) ∧ Kp V w' from ⟨cell_up k g0, cell_up k g1, cell_up k g2, cell_up k g3, cell_up (ka.trans k) x0, cell_up (ka.trans k) x1, k⟩)
  have hBV := heap_block ka hB
  have KV := Lib.hid (K1.out.trans ka)
  have HV := Lib.hid hV
  have OKV := Lib.hid (okg.kp ka)
  have wz : 0 < ag.length := by omega
  clear hV ka hgq g0 g1 g2 g3 x0 x1 hB okg
  go_wp2_with fail
  rw [← HV.out]
  refine wp_region_held_drew (S := fun w' => w'.cell? ⟨w1.heap.size, 0, none⟩ = some (.bool true) ∧ w'.cell? ⟨w1.heap.size, 1, none⟩ = some (.int .i64 ug) ∧ w'.cell? ⟨w1.heap.size, 2, none⟩ = some (.slice (some ⟨ba, oa, none⟩) ag.length cag) ∧ w'.cell? ⟨w1.heap.size, 3, none⟩ = some (.slice bdg bg.length cbg) ∧ w'.cell? ⟨ba, oa, none⟩ = some (.int .i64 (leastR ag)) ∧ w'.cell? ⟨ba, oa + (ag.length - 1) * 2 + 1, none⟩ = some (.int .i64 (greatR ag)) ∧ Kp V w') (by kernel_rfl) ?_ (fun hHeld0 => ?_)
  · (try dsimp only); exact HB.out _ (by first | assumption | exact Kp.drew _)
  refine tkW (v := ?_) 0 uA0 rfl (by kernel_rfl) (by kernel_rfl) (by kernel_rfl) (fun _ _ _ h => h) (by rfl) ?_ (by assumption) ?_
  rotate_left
  · intro w hSw; (try dsimp only at hSw); go_simp; (try with_reducible rfl)
  (try simp only [Act.put, uA0, List.setIfInBounds_toArray, List.set_cons_zero, List.set_cons_succ])
  refine tkW (v := ?_) 1 uA1 rfl (by kernel_rfl) (by kernel_rfl) (by kernel_rfl) (fun _ _ _ h => h) (by rfl) ?_ (by assumption) ?_
  rotate_left
  · intro w hSw; (try dsimp only at hSw); go_simp; (try with_reducible rfl)
  (try simp only [Act.put, uA1, List.setIfInBounds_toArray, List.set_cons_zero, List.set_cons_succ])
  refine tkW (v := ?_) 2 uA2 rfl (by kernel_rfl) (by kernel_rfl) (by kernel_rfl) (fun _ _ _ h => h) (by rfl) ?_ (by assumption) ?_
  rotate_left
  · intro w hSw; (try dsimp only at hSw); go_simp; (try with_reducible rfl)
  (try simp only [Act.put, uA2, List.setIfInBounds_toArray, List.set_cons_zero, List.set_cons_succ])
  refine tkW (v := ?_) 3 uA3 rfl (by kernel_rfl) (by kernel_rfl) (by kernel_rfl) (fun _ _ _ h => h) (by rfl) ?_ (by assumption) ?_
  rotate_left
  · intro w hSw; (try dsimp only at hSw); go_simp; (try with_reducible rfl)
  (try simp only [Act.put, uA3, List.setIfInBounds_toArray, List.set_cons_zero, List.set_cons_succ])
  refine tkW (v := ?_) 4 uA4 rfl (by kernel_rfl) (by kernel_rfl) (by kernel_rfl) (fun _ _ _ h => h) (by rfl) ?_ (by assumption) ?_
  rotate_left
  · intro w hSw; (try dsimp only at hSw); go_simp; (try with_reducible rfl)
  (try simp only [Act.put, uA4, List.setIfInBounds_toArray, List.set_cons_zero, List.set_cons_succ])
  refine tkW (v := ?_) 5 uA5 rfl (by kernel_rfl) (by kernel_rfl) (by kernel_rfl) (fun _ _ _ h => h) (by rfl) ?_ (by assumption) ?_
  rotate_left
  · intro w hSw; (try dsimp only at hSw); go_simp; (try with_reducible rfl)
  (try simp only [Act.put, uA5, List.setIfInBounds_toArray, List.set_cons_zero, List.set_cons_succ])
  refine tkW (v := ?_) 6 uA6 rfl (by kernel_rfl) (by kernel_rfl) (by kernel_rfl) (fun _ _ _ h => h) (by rfl) ?_ (by assumption) ?_
  rotate_left
  · intro w hSw; (try dsimp only at hSw); go_simp; (try with_reducible rfl)
  (try simp only [Act.put, uA6, List.setIfInBounds_toArray, List.set_cons_zero, List.set_cons_succ])
  refine tkW (v := ?_) 7 uA7 rfl (by kernel_rfl) (by kernel_rfl) (by kernel_rfl) (fun _ _ _ h => h) (by rfl) ?_ (by assumption) ?_
  rotate_left
  · intro w hSw; (try dsimp only at hSw); go_simp; (try with_reducible rfl)
  (try simp only [Act.put, uA7, List.setIfInBounds_toArray, List.set_cons_zero, List.set_cons_succ])
  refine tkW (v := ?_) 8 uA8 rfl (by kernel_rfl) (by kernel_rfl) (by kernel_rfl) (fun _ _ _ h => h) (by rfl) ?_ (by assumption) ?_
  rotate_left
  · intro w hSw; (try dsimp only at hSw); go_simp; (try with_reducible rfl)
  (try simp only [Act.put, uA8, List.setIfInBounds_toArray, List.set_cons_zero, List.set_cons_succ])
  refine tkW (v := ?_) 9 uA9 rfl (by kernel_rfl) (by kernel_rfl) (by kernel_rfl) (fun _ _ _ h => h) (by rfl) ?_ (by assumption) ?_
  rotate_left
  · intro w hSw; (try dsimp only at hSw); go_simp; (try with_reducible rfl)
  (try simp only [Act.put, uA9, List.setIfInBounds_toArray, List.set_cons_zero, List.set_cons_succ])
  refine tkW (v := ?_) 10 uA10 rfl (by kernel_rfl) (by kernel_rfl) (by kernel_rfl) (fun _ _ _ h => h) (by rfl) ?_ (by assumption) ?_
  rotate_left
  · intro w hSw; (try dsimp only at hSw); go_simp; (try with_reducible rfl)
  (try simp only [Act.put, uA10, List.setIfInBounds_toArray, List.set_cons_zero, List.set_cons_succ])
  refine tkW (v := ?_) 11 uA11 rfl (by kernel_rfl) (by kernel_rfl) (by kernel_rfl) (fun _ _ _ h => h) (by rfl) ?_ (by assumption) ?_
  rotate_left
  · intro w hSw; (try dsimp only at hSw); go_simp; (try with_reducible rfl)
  (try simp only [Act.put, uA11, List.setIfInBounds_toArray, List.set_cons_zero, List.set_cons_succ])
  refine tkW (v := ?_) 12 uA12 rfl (by kernel_rfl) (by kernel_rfl) (by kernel_rfl) (fun _ _ _ h => h) (by rfl) ?_ (by assumption) ?_
  rotate_left
  · intro w hSw; (try dsimp only at hSw); go_simp; (try with_reducible rfl)
  (try simp only [Act.put, uA12, List.setIfInBounds_toArray, List.set_cons_zero, List.set_cons_succ])
  refine tkU 13 uA13 rfl (by kernel_rfl) (by kernel_rfl) (by kernel_rfl) (fun _ _ _ h => h) (by rfl) (by assumption) ?_
  (try simp only [Act.put, uA13, List.setIfInBounds_toArray, List.set_cons_zero, List.set_cons_succ])
  refine tkU 14 uA14 rfl (by kernel_rfl) (by kernel_rfl) (by kernel_rfl) (fun _ _ _ h => h) (by rfl) (by assumption) ?_
  (try simp only [Act.put, uA14, List.setIfInBounds_toArray, List.set_cons_zero, List.set_cons_succ])
  refine tkU 15 uA15 rfl (by kernel_rfl) (by kernel_rfl) (by kernel_rfl) (fun _ _ _ h => h) (by rfl) (by assumption) ?_
  (try simp only [Act.put, uA15, List.setIfInBounds_toArray, List.set_cons_zero, List.set_cons_succ])
  refine tkU 16 uA16 rfl (by kernel_rfl) (by kernel_rfl) (by kernel_rfl) (fun _ _ _ h => h) (by rfl) (by assumption) ?_
  (try simp only [Act.put, uA16, List.setIfInBounds_toArray, List.set_cons_zero, List.set_cons_succ])
  refine tkU 17 uA17 rfl (by kernel_rfl) (by kernel_rfl) (by kernel_rfl) (fun _ _ _ h => h) (by rfl) (by assumption) ?_
  (try simp only [Act.put, uA17, List.setIfInBounds_toArray, List.set_cons_zero, List.set_cons_succ])
  refine tkU 18 uA18 rfl (by kernel_rfl) (by kernel_rfl) (by kernel_rfl) (fun _ _ _ h => h) (by rfl) (by assumption) ?_
  (try simp only [Act.put, uA18, List.setIfInBounds_toArray, List.set_cons_zero, List.set_cons_succ])
  refine tkU 19 uA19 rfl (by kernel_rfl) (by kernel_rfl) (by kernel_rfl) (fun _ _ _ h => h) (by rfl) (by assumption) ?_
  (try simp only [Act.put, uA19, List.setIfInBounds_toArray, List.set_cons_zero, List.set_cons_succ])
  refine tkU 20 uA20 rfl (by kernel_rfl) (by kernel_rfl) (by kernel_rfl) (fun _ _ _ h => h) (by rfl) (by assumption) ?_
  (try simp only [Act.put, uA20, List.setIfInBounds_toArray, List.set_cons_zero, List.set_cons_succ])
  refine tkU 21 uA21 rfl (by kernel_rfl) (by kernel_rfl) (by kernel_rfl) (fun _ _ _ h => h) (by rfl) (by assumption) ?_
  (try simp only [Act.put, uA21, List.setIfInBounds_toArray, List.set_cons_zero, List.set_cons_succ])
  refine tkU 22 uA22 rfl (by kernel_rfl) (by kernel_rfl) (by kernel_rfl) (fun _ _ _ h => h) (by rfl) (by assumption) ?_
  (try simp only [Act.put, uA22, List.setIfInBounds_toArray, List.set_cons_zero, List.set_cons_succ])
  refine tkU 23 uA23 rfl (by kernel_rfl) (by kernel_rfl) (by kernel_rfl) (fun _ _ _ h => h) (by rfl) (by assumption) ?_
  (try simp only [Act.put, uA23, List.setIfInBounds_toArray, List.set_cons_zero, List.set_cons_succ])
  refine tkU 24 uA24 rfl (by kernel_rfl) (by kernel_rfl) (by kernel_rfl) (fun _ _ _ h => h) (by rfl) (by assumption) ?_
  (try simp only [Act.put, uA24, List.setIfInBounds_toArray, List.set_cons_zero, List.set_cons_succ])
  refine tkU 25 uA25 rfl (by kernel_rfl) (by kernel_rfl) (by kernel_rfl) (fun _ _ _ h => h) (by rfl) (by assumption) ?_
  (try simp only [Act.put, uA25, List.setIfInBounds_toArray, List.set_cons_zero, List.set_cons_succ])
  refine tkU 26 uA26 rfl (by kernel_rfl) (by kernel_rfl) (by kernel_rfl) (fun _ _ _ h => h) (by rfl) (by assumption) ?_
  (try simp only [Act.put, uA26, List.setIfInBounds_toArray, List.set_cons_zero, List.set_cons_succ])
  refine tkU 27 uA27 rfl (by kernel_rfl) (by kernel_rfl) (by kernel_rfl) (fun _ _ _ h => h) (by rfl) (by assumption) ?_
  (try simp only [Act.put, uA27, List.setIfInBounds_toArray, List.set_cons_zero, List.set_cons_succ])
  refine tkW (v := ?_) 28 uA28 rfl (by kernel_rfl) (by kernel_rfl) (by kernel_rfl) (fun _ _ _ h => h) (by rfl) ?_ (by assumption) ?_
  rotate_left
  · intro w hSw; (try dsimp only at hSw); go_simp; (try with_reducible rfl)
  (try simp only [Act.put, uA28, List.setIfInBounds_toArray, List.set_cons_zero, List.set_cons_succ])
  refine tkW (v := ?_) 29 uA29 rfl (by kernel_rfl) (by kernel_rfl) (by kernel_rfl) (fun _ _ _ h => h) (by rfl) ?_ (by assumption) ?_
  rotate_left
  · intro w hSw; (try dsimp only at hSw); go_simp; (try with_reducible rfl)
  (try simp only [Act.put, uA29, List.setIfInBounds_toArray, List.set_cons_zero, List.set_cons_succ])
  refine tkW (v := ?_) 30 uA30 rfl (by kernel_rfl) (by kernel_rfl) (by kernel_rfl) (fun _ _ _ h => h) (by rfl) ?_ (by assumption) ?_
  rotate_left
  · intro w hSw; (try dsimp only at hSw); go_simp; (try with_reducible rfl)
  (try simp only [Act.put, uA30, List.setIfInBounds_toArray, List.set_cons_zero, List.set_cons_succ])
  refine wpAnyH_done (by kernel_rfl) ?_ _
  obtain ⟨X, hX⟩ : ∃ x, x = V.drew := ⟨_, rfl⟩
  have hBX : X.heap[w.heap.size + 1]? = some (.cells #[.bool false, .int .i64 0, .slice none 0 0, .slice none 0 0] 24 (0, 0)) := by rw [hX]; exact hBV
  have kx : Kp V X := by rw [hX]; exact Kp.drew _
  have KX := Lib.hid kx
  have KWX := Lib.hid (KV.out.trans kx)
  rw [← hX]
  clear hX hBV kx
  obtain ⟨c0, c1, c2, c3, c4, c5, _⟩ := HB.out X KX.out
  have r0 : X.cell? ⟨w.heap.size + 1, 0, none⟩ = some (.bool false) := by simp [World.cell?, hBX]
  have f0 : X.frozen? ⟨w.heap.size + 1, 0, none⟩ = false := by simp [World.frozen?, hBX]
  have r1 : X.cell? ⟨w.heap.size + 1, 1, none⟩ = some (.int .i64 0) := by simp [World.cell?, hBX]
  have f1 : X.frozen? ⟨w.heap.size + 1, 1, none⟩ = false := by simp [World.frozen?, hBX]
  have r2 : X.cell? ⟨w.heap.size + 1, 2, none⟩ = some (.slice none 0 0) := by simp [World.cell?, hBX]
  have f2 : X.frozen? ⟨w.heap.size + 1, 2, none⟩ = false := by simp [World.frozen?, hBX]
  have r3 : X.cell? ⟨w.heap.size + 1, 3, none⟩ = some (.slice none 0 0) := by simp [World.cell?, hBX]
  have f3 : X.frozen? ⟨w.heap.size + 1, 3, none⟩ = false := by simp [World.frozen?, hBX]
  have sx := KWX.out.size
  go_wp2
  have RD0 := set4_read hBX (.bool false) (.int .i64 0) (.slice none 0 0) (.slice none 0 0) (Kp.refl _)
  exact bodyPost_ret (v := .agg #[.bool false, .int .i64 0, .slice none 0 0, .slice none 0 0]) (by simp [results, Tryz.f30, go_sem, RD0]) rfl ⟨.slice none 0 0, .slice none 0 0, rfl, lf0_ok _, set4_below KWX.out (w.heap.size + 1) (by omega) _ _ _ _⟩
set_option maxHeartbeats 16000000 in
set_option maxRecDepth 100000 in
theorem refTidy_4 (spg : Bool) (ug : Int) (ag bg : List R) (iag : I64R ag) (ibg : I64R bg) (f : LF) (va vb : Value) (w : World) (h : LeafOk w f va vb) (hf : asL f = ⟨spg, ug, ag, bg⟩) (h0 : ag.length ≠ 0) (hs : spg = true) (h1 : bg.length ≠ 0) (hg : greatR bg < leastR ag) :
    Calls Tryz.prog 30 #[leafV f va vb] w fun e w' => ∃ va' vb', e = .returned (leafV (lf0) va' vb') ∧ LeafOk w' (lf0) va' vb' ∧ Kp w w' := by
  have C := Lib.hid (fun w1 (kk : Kp w w1) => refAs_any f va vb w1 (h.kp kk))
  rw [hf] at C
  clear hf
  obtain ⟨sp, u, a, b⟩ := f
  obtain ⟨ad, ca, rfl⟩ := h.a.slice
  obtain ⟨bd, cb, rfl⟩ := h.b.slice
  simp only [leafV] at C ⊢
  have K0 := Lib.hid ((Kp.alloc w (.cells #[.bool sp, .int .i64 u, .slice ad a.length ca, .slice bd b.length cb] 24)).trans (Kp.alloc _ (.cells #[.bool false, .int .i64 0, .slice none 0 0, .slice none 0 0] 24)))
  clear h
  subst hs
  have q1 : ((bg.length : Int) == 0) = false := beq_eq_false_iff_ne.2 (by omega)
  have q2 : decide (greatR bg < leastR ag) = true := decide_eq_true hg
  have q0 : ((ag.length : Int) == 0) = false := beq_eq_false_iff_ne.2 (by omega)
  go_enter Tryz.func30, Tryz.ntmps30
  go_wp2_with fail
  refine (C.out _ K0.out).mono ?_
  rintro e w1 ⟨ga, gb, rfl, okg, kk⟩
  have hB := (kk.block (w.heap.size + 1) (by simp)).trans (heap_at (w.alloc _) (.cells #[.bool false, .int .i64 0, .slice none 0 0, .slice none 0 0] 24 (0, 0)) (w.heap.size + 1) (by simp))
  have s1 := kk.size
  simp at s1
  have K1 := Lib.hid (K0.out.trans kk)
  clear kk C
  obtain ⟨ba, oa, cag, ev, x0, x1⟩ := ends_at okg.a (by simp only; omega)
  subst ev
  obtain ⟨bb, ob, cbg, ev, y0, y1⟩ := ends_at okg.b (by simp only; omega)
  subst ev
  have na := okg.na
  have nb := okg.nb
  simp only at na nb x0 x1 y0 y1
  obtain ⟨V, hV⟩ : ∃ x, x = w1.alloc (.cells #[.bool true, .int .i64 ug, .slice (some ⟨ba, oa, none⟩) ag.length cag, .slice (some ⟨bb, ob, none⟩) bg.length cbg] 24) := ⟨_, rfl⟩
  have ka : Kp w1 V := by rw [hV]; exact Kp.alloc _ _
  have hgq : V.heap[w1.heap.size]? = some (.cells #[.bool true, .int .i64 ug, .slice (some ⟨ba, oa, none⟩) ag.length cag, .slice (some ⟨bb, ob, none⟩) bg.length cbg] 24 (0, 0)) := by rw [hV]; exact heap_at _ _ _ rfl
  have g0 : V.cell? ⟨w1.heap.size, 0, none⟩ = some (.bool true) := by simp [World.cell?, hgq]
  have g1 : V.cell? ⟨w1.heap.size, 1, none⟩ = some (.int .i64 ug) := by simp [World.cell?, hgq]
  have g2 : V.cell? ⟨w1.heap.size, 2, none⟩ = some (.slice (some ⟨ba, oa, none⟩) ag.length cag) := by simp [World.cell?, hgq]
  have g3 : V.cell? ⟨w1.heap.size, 3, none⟩ = some (.slice (some ⟨bb, ob, none⟩) bg.length cbg) := by simp [World.cell?, hgq]
  have HB := Lib.hid (fun w' (k : Kp V w') => show w'.cell? ⟨w1.heap.size, 0, none⟩ = some (.bool true) ∧ w'.cell? ⟨w1.heap.size, 1, none⟩ = some (.int .i64 ug) ∧ w'.cell? ⟨w1.heap.size, 2, none⟩ = some (.slice (some ⟨ba, oa, none⟩) ag.length cag) ∧ w'.cell? ⟨w1.heap.size, 3, none⟩ = some (.slice (some ⟨bb, ob, none⟩) bg.length cbg) ∧ w'.cell? ⟨ba, oa, none⟩ = some (.int .i64 (leastR ag)) ∧ w'.cell? ⟨ba, oa + (ag.length - 1) * 2 + 1, none⟩ = some (.int .i64 (greatR ag)) ∧ w'.cell? ⟨bb, ob, none⟩ = some (.int .i64 (leastR bg)) ∧ w'.cell? ⟨bb, ob + (bg.length - 1) * 2 + 1, none⟩ = some (.int .i64 (greatR bg)) ∧ Kp V w' from ⟨cell_up k g0, cell_up k g1, cell_up k g2, cell_up k g3, cell_up (ka.trans k) x0, cell_up (ka.trans k) x1, cell_up (ka.trans k) y0, cell_up (ka.trans k) y1, k⟩)
  have hBV := heap_block ka hB
  have KV := Lib.hid (K1.out.trans ka)
  have HV := Lib.hid hV
  have OKV := Lib.hid (okg.kp ka)
  have wt : (bg.length : Int) - 1 = ((bg.length - 1 : Nat) : Int) := by omega
  have wu : IntKind.i64.wrap ((bg.length - 1 : Nat) : Int) = ((bg.length - 1 : Nat) : Int) := IntWalk.i64_in _ (by omega)
  have wx : bg.length - 1 < bg.length := by omega
  have wy : ((bg.length - 1 : Nat) : Int) < (bg.length : Int) := by omega
  have wv : (0 : Int) ≤ ((bg.length - 1 : Nat) : Int) := by omega
  have wz : 0 < ag.length := by omega
  clear hV ka hgq g0 g1 g2 g3 x0 x1 y0 y1 hB okg
  go_wp2_with fail
  rw [← HV.out]
  refine wp_region_held_drew (S := fun w' => w'.cell? ⟨w1.heap.size, 0, none⟩ = some (.bool true) ∧ w'.cell? ⟨w1.heap.size, 1, none⟩ = some (.int .i64 ug) ∧ w'.cell? ⟨w1.heap.size, 2, none⟩ = some (.slice (some ⟨ba, oa, none⟩) ag.length cag) ∧ w'.cell? ⟨w1.heap.size, 3, none⟩ = some (.slice (some ⟨bb, ob, none⟩) bg.length cbg) ∧ w'.cell? ⟨ba, oa, none⟩ = some (.int .i64 (leastR ag)) ∧ w'.cell? ⟨ba, oa + (ag.length - 1) * 2 + 1, none⟩ = some (.int .i64 (greatR ag)) ∧ w'.cell? ⟨bb, ob, none⟩ = some (.int .i64 (leastR bg)) ∧ w'.cell? ⟨bb, ob + (bg.length - 1) * 2 + 1, none⟩ = some (.int .i64 (greatR bg)) ∧ Kp V w') (by kernel_rfl) ?_ (fun hHeld0 => ?_)
  · (try dsimp only); exact HB.out _ (by first | assumption | exact Kp.drew _)
  refine tkW (v := ?_) 0 uA0 rfl (by kernel_rfl) (by kernel_rfl) (by kernel_rfl) (fun _ _ _ h => h) (by rfl) ?_ (by assumption) ?_
  rotate_left
  · intro w hSw; (try dsimp only at hSw); go_simp; (try with_reducible rfl)
  (try simp only [Act.put, uA0, List.setIfInBounds_toArray, List.set_cons_zero, List.set_cons_succ])
  refine tkW (v := ?_) 1 uA1 rfl (by kernel_rfl) (by kernel_rfl) (by kernel_rfl) (fun _ _ _ h => h) (by rfl) ?_ (by assumption) ?_
  rotate_left
  · intro w hSw; (try dsimp only at hSw); go_simp; (try with_reducible rfl)
  (try simp only [Act.put, uA1, List.setIfInBounds_toArray, List.set_cons_zero, List.set_cons_succ])
  refine tkW (v := ?_) 2 uA2 rfl (by kernel_rfl) (by kernel_rfl) (by kernel_rfl) (fun _ _ _ h => h) (by rfl) ?_ (by assumption) ?_
  rotate_left
  · intro w hSw; (try dsimp only at hSw); go_simp; (try with_reducible rfl)
  (try simp only [Act.put, uA2, List.setIfInBounds_toArray, List.set_cons_zero, List.set_cons_succ])
  refine tkW (v := ?_) 3 uA3 rfl (by kernel_rfl) (by kernel_rfl) (by kernel_rfl) (fun _ _ _ h => h) (by rfl) ?_ (by assumption) ?_
  rotate_left
  · intro w hSw; (try dsimp only at hSw); go_simp; (try with_reducible rfl)
  (try simp only [Act.put, uA3, List.setIfInBounds_toArray, List.set_cons_zero, List.set_cons_succ])
  refine tkW (v := ?_) 4 uA4 rfl (by kernel_rfl) (by kernel_rfl) (by kernel_rfl) (fun _ _ _ h => h) (by rfl) ?_ (by assumption) ?_
  rotate_left
  · intro w hSw; (try dsimp only at hSw); go_simp; (try with_reducible rfl)
  (try simp only [Act.put, uA4, List.setIfInBounds_toArray, List.set_cons_zero, List.set_cons_succ])
  refine tkW (v := ?_) 5 uA5 rfl (by kernel_rfl) (by kernel_rfl) (by kernel_rfl) (fun _ _ _ h => h) (by rfl) ?_ (by assumption) ?_
  rotate_left
  · intro w hSw; (try dsimp only at hSw); go_simp; (try with_reducible rfl)
  (try simp only [Act.put, uA5, List.setIfInBounds_toArray, List.set_cons_zero, List.set_cons_succ])
  refine tkW (v := ?_) 6 uA6 rfl (by kernel_rfl) (by kernel_rfl) (by kernel_rfl) (fun _ _ _ h => h) (by rfl) ?_ (by assumption) ?_
  rotate_left
  · intro w hSw; (try dsimp only at hSw); go_simp; (try with_reducible rfl)
  (try simp only [Act.put, uA6, List.setIfInBounds_toArray, List.set_cons_zero, List.set_cons_succ])
  refine tkW (v := ?_) 7 uA7 rfl (by kernel_rfl) (by kernel_rfl) (by kernel_rfl) (fun _ _ _ h => h) (by rfl) ?_ (by assumption) ?_
  rotate_left
  · intro w hSw; (try dsimp only at hSw); go_simp; (try with_reducible rfl)
  (try simp only [Act.put, uA7, List.setIfInBounds_toArray, List.set_cons_zero, List.set_cons_succ])
  refine tkW (v := ?_) 8 uA8 rfl (by kernel_rfl) (by kernel_rfl) (by kernel_rfl) (fun _ _ _ h => h) (by rfl) ?_ (by assumption) ?_
  rotate_left
  · intro w hSw; (try dsimp only at hSw); go_simp; (try with_reducible rfl)
  (try simp only [Act.put, uA8, List.setIfInBounds_toArray, List.set_cons_zero, List.set_cons_succ])
  refine tkW (v := ?_) 9 uA9 rfl (by kernel_rfl) (by kernel_rfl) (by kernel_rfl) (fun _ _ _ h => h) (by rfl) ?_ (by assumption) ?_
  rotate_left
  · intro w hSw; (try dsimp only at hSw); go_simp; (try with_reducible rfl)
  (try simp only [Act.put, uA9, List.setIfInBounds_toArray, List.set_cons_zero, List.set_cons_succ])
  refine tkW (v := ?_) 10 uA10 rfl (by kernel_rfl) (by kernel_rfl) (by kernel_rfl) (fun _ _ _ h => h) (by rfl) ?_ (by assumption) ?_
  rotate_left
  · intro w hSw; (try dsimp only at hSw); go_simp; (try with_reducible rfl)
  (try simp only [Act.put, uA10, List.setIfInBounds_toArray, List.set_cons_zero, List.set_cons_succ])
  refine tkW (v := ?_) 11 uA11 rfl (by kernel_rfl) (by kernel_rfl) (by kernel_rfl) (fun _ _ _ h => h) (by rfl) ?_ (by assumption) ?_
  rotate_left
  · intro w hSw; (try dsimp only at hSw); go_simp; (try with_reducible rfl)
  (try simp only [Act.put, uA11, List.setIfInBounds_toArray, List.set_cons_zero, List.set_cons_succ])
  refine tkW (v := ?_) 12 uA12 rfl (by kernel_rfl) (by kernel_rfl) (by kernel_rfl) (fun _ _ _ h => h) (by rfl) ?_ (by assumption) ?_
  rotate_left
  · intro w hSw; (try dsimp only at hSw); go_simp; (try with_reducible rfl)
  (try simp only [Act.put, uA12, List.setIfInBounds_toArray, List.set_cons_zero, List.set_cons_succ])
  refine tkW (v := ?_) 13 uA13 rfl (by kernel_rfl) (by kernel_rfl) (by kernel_rfl) (fun _ _ _ h => h) (by rfl) ?_ (by assumption) ?_
  rotate_left
  · intro w hSw; (try dsimp only at hSw); go_simp; (try with_reducible rfl)
  (try simp only [Act.put, uA13, List.setIfInBounds_toArray, List.set_cons_zero, List.set_cons_succ])
  refine tkW (v := ?_) 14 uA14 rfl (by kernel_rfl) (by kernel_rfl) (by kernel_rfl) (fun _ _ _ h => h) (by rfl) ?_ (by assumption) ?_
  rotate_left
  · intro w hSw; (try dsimp only at hSw); go_simp; (try with_reducible rfl)
  (try simp only [Act.put, uA14, List.setIfInBounds_toArray, List.set_cons_zero, List.set_cons_succ])
  refine tkW (v := ?_) 15 uA15 rfl (by kernel_rfl) (by kernel_rfl) (by kernel_rfl) (fun _ _ _ h => h) (by rfl) ?_ (by assumption) ?_
  rotate_left
  · intro w hSw; (try dsimp only at hSw); go_simp; (try with_reducible rfl)
  (try simp only [Act.put, uA15, List.setIfInBounds_toArray, List.set_cons_zero, List.set_cons_succ])
  refine tkW (v := ?_) 16 uA16 rfl (by kernel_rfl) (by kernel_rfl) (by kernel_rfl) (fun _ _ _ h => h) (by rfl) ?_ (by assumption) ?_
  rotate_left
  · intro w hSw; (try dsimp only at hSw); go_simp; (try with_reducible rfl)
  (try simp only [Act.put, uA16, List.setIfInBounds_toArray, List.set_cons_zero, List.set_cons_succ])
  refine tkW (v := ?_) 17 uA17 rfl (by kernel_rfl) (by kernel_rfl) (by kernel_rfl) (fun _ _ _ h => h) (by rfl) ?_ (by assumption) ?_
  rotate_left
  · intro w hSw; (try dsimp only at hSw); go_simp; (try with_reducible rfl)
  (try simp only [Act.put, uA17, List.setIfInBounds_toArray, List.set_cons_zero, List.set_cons_succ])
  refine tkW (v := ?_) 18 uA18 rfl (by kernel_rfl) (by kernel_rfl) (by kernel_rfl) (fun _ _ _ h => h) (by rfl) ?_ (by assumption) ?_
  rotate_left
  · intro w hSw; (try dsimp only at hSw); go_simp; (try with_reducible rfl)
  (try simp only [Act.put, uA18, List.setIfInBounds_toArray, List.set_cons_zero, List.set_cons_succ])
  refine tkW (v := ?_) 19 uA19 rfl (by kernel_rfl) (by kernel_rfl) (by kernel_rfl) (fun _ _ _ h => h) (by rfl) ?_ (by assumption) ?_
  rotate_left
  · intro w hSw; (try dsimp only at hSw); go_simp; (try with_reducible rfl)
  (try simp only [Act.put, uA19, List.setIfInBounds_toArray, List.set_cons_zero, List.set_cons_succ])
  refine tkW (v := ?_) 20 uA20 rfl (by kernel_rfl) (by kernel_rfl) (by kernel_rfl) (fun _ _ _ h => h) (by rfl) ?_ (by assumption) ?_
  rotate_left
  · intro w hSw; (try dsimp only at hSw); go_simp; (try with_reducible rfl)
  (try simp only [Act.put, uA20, List.setIfInBounds_toArray, List.set_cons_zero, List.set_cons_succ])
  refine tkW (v := ?_) 21 uA21 rfl (by kernel_rfl) (by kernel_rfl) (by kernel_rfl) (fun _ _ _ h => h) (by rfl) ?_ (by assumption) ?_
  rotate_left
  · intro w hSw; (try dsimp only at hSw); go_simp; (try with_reducible rfl)
  (try simp only [Act.put, uA21, List.setIfInBounds_toArray, List.set_cons_zero, List.set_cons_succ])
  refine tkW (v := ?_) 22 uA22 rfl (by kernel_rfl) (by kernel_rfl) (by kernel_rfl) (fun _ _ _ h => h) (by rfl) ?_ (by assumption) ?_
  rotate_left
  · intro w hSw; (try dsimp only at hSw); go_simp; (try with_reducible rfl)
  (try simp only [Act.put, uA22, List.setIfInBounds_toArray, List.set_cons_zero, List.set_cons_succ])
  refine tkW (v := ?_) 23 uA23 rfl (by kernel_rfl) (by kernel_rfl) (by kernel_rfl) (fun _ _ _ h => h) (by rfl) ?_ (by assumption) ?_
  rotate_left
  · intro w hSw; (try dsimp only at hSw); go_simp; (try with_reducible rfl)
  (try simp only [Act.put, uA23, List.setIfInBounds_toArray, List.set_cons_zero, List.set_cons_succ])
  refine tkW (v := ?_) 24 uA24 rfl (by kernel_rfl) (by kernel_rfl) (by kernel_rfl) (fun _ _ _ h => h) (by rfl) ?_ (by assumption) ?_
  rotate_left
  · intro w hSw; (try dsimp only at hSw); go_simp; (try with_reducible rfl)
  (try simp only [Act.put, uA24, List.setIfInBounds_toArray, List.set_cons_zero, List.set_cons_succ])
  refine tkW (v := ?_) 25 uA25 rfl (by kernel_rfl) (by kernel_rfl) (by kernel_rfl) (fun _ _ _ h => h) (by rfl) ?_ (by assumption) ?_
  rotate_left
  · intro w hSw; (try dsimp only at hSw); go_simp; (try with_reducible rfl)
  (try simp only [Act.put, uA25, List.setIfInBounds_toArray, List.set_cons_zero, List.set_cons_succ])
  refine tkW (v := ?_) 26 uA26 rfl (by kernel_rfl) (by kernel_rfl) (by kernel_rfl) (fun _ _ _ h => h) (by rfl) ?_ (by assumption) ?_
  rotate_left
  · intro w hSw; (try dsimp only at hSw); go_simp; (try with_reducible rfl)
  (try simp only [Act.put, uA26, List.setIfInBounds_toArray, List.set_cons_zero, List.set_cons_succ])
  refine tkW (v := ?_) 27 uA27 rfl (by kernel_rfl) (by kernel_rfl) (by kernel_rfl) (fun _ _ _ h => h) (by rfl) ?_ (by assumption) ?_
  rotate_left
  · intro w hSw; (try dsimp only at hSw); go_simp; (try with_reducible rfl)
  (try simp only [Act.put, uA27, List.setIfInBounds_toArray, List.set_cons_zero, List.set_cons_succ])
  refine tkW (v := ?_) 28 uA28 rfl (by kernel_rfl) (by kernel_rfl) (by kernel_rfl) (fun _ _ _ h => h) (by rfl) ?_ (by assumption) ?_
  rotate_left
  · intro w hSw; (try dsimp only at hSw); go_simp; (try with_reducible rfl)
  (try simp only [Act.put, uA28, List.setIfInBounds_toArray, List.set_cons_zero, List.set_cons_succ])
  refine tkW (v := ?_) 29 uA29 rfl (by kernel_rfl) (by kernel_rfl) (by kernel_rfl) (fun _ _ _ h => h) (by rfl) ?_ (by assumption) ?_
  rotate_left
  · intro w hSw; (try dsimp only at hSw); go_simp; (try with_reducible rfl)
  (try simp only [Act.put, uA29, List.setIfInBounds_toArray, List.set_cons_zero, List.set_cons_succ])
  refine tkW (v := ?_) 30 uA30 rfl (by kernel_rfl) (by kernel_rfl) (by kernel_rfl) (fun _ _ _ h => h) (by rfl) ?_ (by assumption) ?_
  rotate_left
  · intro w hSw; (try dsimp only at hSw); go_simp; (try with_reducible rfl)
  (try simp only [Act.put, uA30, List.setIfInBounds_toArray, List.set_cons_zero, List.set_cons_succ])
  refine wpAnyH_done (by kernel_rfl) ?_ _
  obtain ⟨X, hX⟩ : ∃ x, x = V.drew := ⟨_, rfl⟩
  have hBX : X.heap[w.heap.size + 1]? = some (.cells #[.bool false, .int .i64 0, .slice none 0 0, .slice none 0 0] 24 (0, 0)) := by rw [hX]; exact hBV
  have kx : Kp V X := by rw [hX]; exact Kp.drew _
  have KX := Lib.hid kx
  have KWX := Lib.hid (KV.out.trans kx)
  rw [← hX]
  clear hX hBV kx
  obtain ⟨c0, c1, c2, c3, c4, c5, c6, c7, _⟩ := HB.out X KX.out
  have r0 : X.cell? ⟨w.heap.size + 1, 0, none⟩ = some (.bool false) := by simp [World.cell?, hBX]
  have f0 : X.frozen? ⟨w.heap.size + 1, 0, none⟩ = false := by simp [World.frozen?, hBX]
  have r1 : X.cell? ⟨w.heap.size + 1, 1, none⟩ = some (.int .i64 0) := by simp [World.cell?, hBX]
  have f1 : X.frozen? ⟨w.heap.size + 1, 1, none⟩ = false := by simp [World.frozen?, hBX]
  have r2 : X.cell? ⟨w.heap.size + 1, 2, none⟩ = some (.slice none 0 0) := by simp [World.cell?, hBX]
  have f2 : X.frozen? ⟨w.heap.size + 1, 2, none⟩ = false := by simp [World.frozen?, hBX]
  have r3 : X.cell? ⟨w.heap.size + 1, 3, none⟩ = some (.slice none 0 0) := by simp [World.cell?, hBX]
  have f3 : X.frozen? ⟨w.heap.size + 1, 3, none⟩ = false := by simp [World.frozen?, hBX]
  have sx := KWX.out.size
  go_wp2
  have RD0 := set4_read hBX (.bool false) (.int .i64 0) (.slice none 0 0) (.slice none 0 0) (Kp.refl _)
  exact bodyPost_ret (v := .agg #[.bool false, .int .i64 0, .slice none 0 0, .slice none 0 0]) (by simp [results, Tryz.f30, go_sem, RD0]) rfl ⟨.slice none 0 0, .slice none 0 0, rfl, lf0_ok _, set4_below KWX.out (w.heap.size + 1) (by omega) _ _ _ _⟩
set_option maxHeartbeats 16000000 in
set_option maxRecDepth 100000 in
theorem refTidy_5 (spg : Bool) (ug : Int) (ag bg : List R) (iag : I64R ag) (ibg : I64R bg) (f : LF) (va vb : Value) (w : World) (h : LeafOk w f va vb) (hf : asL f = ⟨spg, ug, ag, bg⟩) (h0 : ag.length ≠ 0) (hs : spg = true) (h1 : bg.length ≠ 0) (hg : ¬ greatR bg < leastR ag) :
    Calls Tryz.prog 30 #[leafV f va vb] w fun e w' => ∃ va' vb', e = .returned (leafV (⟨true, 0, interR ag [(0, greatR bg)], interR bg [(leastR ag, 3652424)]⟩) va' vb') ∧ LeafOk w' (⟨true, 0, interR ag [(0, greatR bg)], interR bg [(leastR ag, 3652424)]⟩) va' vb' ∧ Kp w w' := by
  have C := Lib.hid (fun w1 (kk : Kp w w1) => refAs_any f va vb w1 (h.kp kk))
  rw [hf] at C
  clear hf
  obtain ⟨sp, u, a, b⟩ := f
  obtain ⟨ad, ca, rfl⟩ := h.a.slice
  obtain ⟨bd, cb, rfl⟩ := h.b.slice
  simp only [leafV] at C ⊢
  have K0 := Lib.hid ((Kp.alloc w (.cells #[.bool sp, .int .i64 u, .slice ad a.length ca, .slice bd b.length cb] 24)).trans (Kp.alloc _ (.cells #[.bool false, .int .i64 0, .slice none 0 0, .slice none 0 0] 24)))
  clear h
  subst hs
  have q1 : ((bg.length : Int) == 0) = false := beq_eq_false_iff_ne.2 (by omega)
  have q2 : decide (greatR bg < leastR ag) = false := decide_eq_false hg
  have gi := greatR_i64 ibg (by omega)
  have li := leastR_i64 iag (by omega)
  have ii1 := i64_one (lo := 0) (hi' := greatR bg) (by decide) (by decide) gi.1 gi.2
  have ii2 := i64_one (lo := leastR ag) (hi' := 3652424) li.1 li.2 (by decide) (by decide)
  have q0 : ((ag.length : Int) == 0) = false := beq_eq_false_iff_ne.2 (by omega)
  go_enter Tryz.func30, Tryz.ntmps30
  go_wp2_with fail
  refine (C.out _ K0.out).mono ?_
  rintro e w1 ⟨ga, gb, rfl, okg, kk⟩
  have hB := (kk.block (w.heap.size + 1) (by simp)).trans (heap_at (w.alloc _) (.cells #[.bool false, .int .i64 0, .slice none 0 0, .slice none 0 0] 24 (0, 0)) (w.heap.size + 1) (by simp))
  have s1 := kk.size
  simp at s1
  have K1 := Lib.hid (K0.out.trans kk)
  clear kk C
  obtain ⟨ba, oa, cag, ev, x0, x1⟩ := ends_at okg.a (by simp only; omega)
  subst ev
  obtain ⟨bb, ob, cbg, ev, y0, y1⟩ := ends_at okg.b (by simp only; omega)
  subst ev
  have na := okg.na
  have nb := okg.nb
  simp only at na nb x0 x1 y0 y1
  obtain ⟨V, hV⟩ : ∃ x, x = w1.alloc (.cells #[.bool true, .int .i64 ug, .slice (some ⟨ba, oa, none⟩) ag.length cag, .slice (some ⟨bb, ob, none⟩) bg.length cbg] 24) := ⟨_, rfl⟩
  have ka : Kp w1 V := by rw [hV]; exact Kp.alloc _ _
  have hgq : V.heap[w1.heap.size]? = some (.cells #[.bool true, .int .i64 ug, .slice (some ⟨ba, oa, none⟩) ag.length cag, .slice (some ⟨bb, ob, none⟩) bg.length cbg] 24 (0, 0)) := by rw [hV]; exact heap_at _ _ _ rfl
  have g0 : V.cell? ⟨w1.heap.size, 0, none⟩ = some (.bool true) := by simp [World.cell?, hgq]
  have g1 : V.cell? ⟨w1.heap.size, 1, none⟩ = some (.int .i64 ug) := by simp [World.cell?, hgq]
  have g2 : V.cell? ⟨w1.heap.size, 2, none⟩ = some (.slice (some ⟨ba, oa, none⟩) ag.length cag) := by simp [World.cell?, hgq]
  have g3 : V.cell? ⟨w1.heap.size, 3, none⟩ = some (.slice (some ⟨bb, ob, none⟩) bg.length cbg) := by simp [World.cell?, hgq]
  have HB := Lib.hid (fun w' (k : Kp V w') => show w'.cell? ⟨w1.heap.size, 0, none⟩ = some (.bool true) ∧ w'.cell? ⟨w1.heap.size, 1, none⟩ = some (.int .i64 ug) ∧ w'.cell? ⟨w1.heap.size, 2, none⟩ = some (.slice (some ⟨ba, oa, none⟩) ag.length cag) ∧ w'.cell? ⟨w1.heap.size, 3, none⟩ = some (.slice (some ⟨bb, ob, none⟩) bg.length cbg) ∧ w'.cell? ⟨ba, oa, none⟩ = some (.int .i64 (leastR ag)) ∧ w'.cell? ⟨ba, oa + (ag.length - 1) * 2 + 1, none⟩ = some (.int .i64 (greatR ag)) ∧ w'.cell? ⟨bb, ob, none⟩ = some (.int .i64 (leastR bg)) ∧ w'.cell? ⟨bb, ob + (bg.length - 1) * 2 + 1, none⟩ = some (.int .i64 (greatR bg)) ∧ Kp V w' from ⟨cell_up k g0, cell_up k g1, cell_up k g2, cell_up k g3, cell_up (ka.trans k) x0, cell_up (ka.trans k) x1, cell_up (ka.trans k) y0, cell_up (ka.trans k) y1, k⟩)
  have hBV := heap_block ka hB
  have KV := Lib.hid (K1.out.trans ka)
  have HV := Lib.hid hV
  have OKV := Lib.hid (okg.kp ka)
  have wt : (bg.length : Int) - 1 = ((bg.length - 1 : Nat) : Int) := by omega
  have wu : IntKind.i64.wrap ((bg.length - 1 : Nat) : Int) = ((bg.length - 1 : Nat) : Int) := IntWalk.i64_in _ (by omega)
  have wx : bg.length - 1 < bg.length := by omega
  have wy : ((bg.length - 1 : Nat) : Int) < (bg.length : Int) := by omega
  have wv : (0 : Int) ≤ ((bg.length - 1 : Nat) : Int) := by omega
  have wz : 0 < ag.length := by omega
  clear hV ka hgq g0 g1 g2 g3 x0 x1 y0 y1 hB okg
  go_wp2_with fail
  rw [← HV.out]
  refine wp_region_held_drew (S := fun w' => w'.cell? ⟨w1.heap.size, 0, none⟩ = some (.bool true) ∧ w'.cell? ⟨w1.heap.size, 1, none⟩ = some (.int .i64 ug) ∧ w'.cell? ⟨w1.heap.size, 2, none⟩ = some (.slice (some ⟨ba, oa, none⟩) ag.length cag) ∧ w'.cell? ⟨w1.heap.size, 3, none⟩ = some (.slice (some ⟨bb, ob, none⟩) bg.length cbg) ∧ w'.cell? ⟨ba, oa, none⟩ = some (.int .i64 (leastR ag)) ∧ w'.cell? ⟨ba, oa + (ag.length - 1) * 2 + 1, none⟩ = some (.int .i64 (greatR ag)) ∧ w'.cell? ⟨bb, ob, none⟩ = some (.int .i64 (leastR bg)) ∧ w'.cell? ⟨bb, ob + (bg.length - 1) * 2 + 1, none⟩ = some (.int .i64 (greatR bg)) ∧ Kp V w') (by kernel_rfl) ?_ (fun hHeld0 => ?_)
  · (try dsimp only); exact HB.out _ (by first | assumption | exact Kp.drew _)
  refine tkW (v := ?_) 0 uA0 rfl (by kernel_rfl) (by kernel_rfl) (by kernel_rfl) (fun _ _ _ h => h) (by rfl) ?_ (by assumption) ?_
  rotate_left
  · intro w hSw; (try dsimp only at hSw); go_simp; (try with_reducible rfl)
  (try simp only [Act.put, uA0, List.setIfInBounds_toArray, List.set_cons_zero, List.set_cons_succ])
  refine tkW (v := ?_) 1 uA1 rfl (by kernel_rfl) (by kernel_rfl) (by kernel_rfl) (fun _ _ _ h => h) (by rfl) ?_ (by assumption) ?_
  rotate_left
  · intro w hSw; (try dsimp only at hSw); go_simp; (try with_reducible rfl)
  (try simp only [Act.put, uA1, List.setIfInBounds_toArray, List.set_cons_zero, List.set_cons_succ])
  refine tkW (v := ?_) 2 uA2 rfl (by kernel_rfl) (by kernel_rfl) (by kernel_rfl) (fun _ _ _ h => h) (by rfl) ?_ (by assumption) ?_
  rotate_left
  · intro w hSw; (try dsimp only at hSw); go_simp; (try with_reducible rfl)
  (try simp only [Act.put, uA2, List.setIfInBounds_toArray, List.set_cons_zero, List.set_cons_succ])
  refine tkW (v := ?_) 3 uA3 rfl (by kernel_rfl) (by kernel_rfl) (by kernel_rfl) (fun _ _ _ h => h) (by rfl) ?_ (by assumption) ?_
  rotate_left
  · intro w hSw; (try dsimp only at hSw); go_simp; (try with_reducible rfl)
  (try simp only [Act.put, uA3, List.setIfInBounds_toArray, List.set_cons_zero, List.set_cons_succ])
  refine tkW (v := ?_) 4 uA4 rfl (by kernel_rfl) (by kernel_rfl) (by kernel_rfl) (fun _ _ _ h => h) (by rfl) ?_ (by assumption) ?_
  rotate_left
  · intro w hSw; (try dsimp only at hSw); go_simp; (try with_reducible rfl)
  (try simp only [Act.put, uA4, List.setIfInBounds_toArray, List.set_cons_zero, List.set_cons_succ])
  refine tkW (v := ?_) 5 uA5 rfl (by kernel_rfl) (by kernel_rfl) (by kernel_rfl) (fun _ _ _ h => h) (by rfl) ?_ (by assumption) ?_
  rotate_left
  · intro w hSw; (try dsimp only at hSw); go_simp; (try with_reducible rfl)
  (try simp only [Act.put, uA5, List.setIfInBounds_toArray, List.set_cons_zero, List.set_cons_succ])
  refine tkW (v := ?_) 6 uA6 rfl (by kernel_rfl) (by kernel_rfl) (by kernel_rfl) (fun _ _ _ h => h) (by rfl) ?_ (by assumption) ?_
  rotate_left
  · intro w hSw; (try dsimp only at hSw); go_simp; (try with_reducible rfl)
  (try simp only [Act.put, uA6, List.setIfInBounds_toArray, List.set_cons_zero, List.set_cons_succ])
  refine tkW (v := ?_) 7 uA7 rfl (by kernel_rfl) (by kernel_rfl) (by kernel_rfl) (fun _ _ _ h => h) (by rfl) ?_ (by assumption) ?_
  rotate_left
  · intro w hSw; (try dsimp only at hSw); go_simp; (try with_reducible rfl)
  (try simp only [Act.put, uA7, List.setIfInBounds_toArray, List.set_cons_zero, List.set_cons_succ])
  refine tkW (v := ?_) 8 uA8 rfl (by kernel_rfl) (by kernel_rfl) (by kernel_rfl) (fun _ _ _ h => h) (by rfl) ?_ (by assumption) ?_
  rotate_left
  · intro w hSw; (try dsimp only at hSw); go_simp; (try with_reducible rfl)
  (try simp only [Act.put, uA8, List.setIfInBounds_toArray, List.set_cons_zero, List.set_cons_succ])
  refine tkW (v := ?_) 9 uA9 rfl (by kernel_rfl) (by kernel_rfl) (by kernel_rfl) (fun _ _ _ h => h) (by rfl) ?_ (by assumption) ?_
  rotate_left
  · intro w hSw; (try dsimp only at hSw); go_simp; (try with_reducible rfl)
  (try simp only [Act.put, uA9, List.setIfInBounds_toArray, List.set_cons_zero, List.set_cons_succ])
  refine tkW (v := ?_) 10 uA10 rfl (by kernel_rfl) (by kernel_rfl) (by kernel_rfl) (fun _ _ _ h => h) (by rfl) ?_ (by assumption) ?_
  rotate_left
  · intro w hSw; (try dsimp only at hSw); go_simp; (try with_reducible rfl)
  (try simp only [Act.put, uA10, List.setIfInBounds_toArray, List.set_cons_zero, List.set_cons_succ])
  refine tkW (v := ?_) 11 uA11 rfl (by kernel_rfl) (by kernel_rfl) (by kernel_rfl) (fun _ _ _ h => h) (by rfl) ?_ (by assumption) ?_
  rotate_left
  · intro w hSw; (try dsimp only at hSw); go_simp; (try with_reducible rfl)
  (try simp only [Act.put, uA11, List.setIfInBounds_toArray, List.set_cons_zero, List.set_cons_succ])
  refine tkW (v := ?_) 12 uA12 rfl (by kernel_rfl) (by kernel_rfl) (by kernel_rfl) (fun _ _ _ h => h) (by rfl) ?_ (by assumption) ?_
  rotate_left
  · intro w hSw; (try dsimp only at hSw); go_simp; (try with_reducible rfl)
  (try simp only [Act.put, uA12, List.setIfInBounds_toArray, List.set_cons_zero, List.set_cons_succ])
  refine tkW (v := ?_) 13 uA13 rfl (by kernel_rfl) (by kernel_rfl) (by kernel_rfl) (fun _ _ _ h => h) (by rfl) ?_ (by assumption) ?_
  rotate_left
  · intro w hSw; (try dsimp only at hSw); go_simp; (try with_reducible rfl)
  (try simp only [Act.put, uA13, List.setIfInBounds_toArray, List.set_cons_zero, List.set_cons_succ])
  refine tkW (v := ?_) 14 uA14 rfl (by kernel_rfl) (by kernel_rfl) (by kernel_rfl) (fun _ _ _ h => h) (by rfl) ?_ (by assumption) ?_
  rotate_left
  · intro w hSw; (try dsimp only at hSw); go_simp; (try with_reducible rfl)
  (try simp only [Act.put, uA14, List.setIfInBounds_toArray, List.set_cons_zero, List.set_cons_succ])
  refine tkW (v := ?_) 15 uA15 rfl (by kernel_rfl) (by kernel_rfl) (by kernel_rfl) (fun _ _ _ h => h) (by rfl) ?_ (by assumption) ?_
  rotate_left
  · intro w hSw; (try dsimp only at hSw); go_simp; (try with_reducible rfl)
  (try simp only [Act.put, uA15, List.setIfInBounds_toArray, List.set_cons_zero, List.set_cons_succ])
  refine tkW (v := ?_) 16 uA16 rfl (by kernel_rfl) (by kernel_rfl) (by kernel_rfl) (fun _ _ _ h => h) (by rfl) ?_ (by assumption) ?_
  rotate_left
  · intro w hSw; (try dsimp only at hSw); go_simp; (try with_reducible rfl)
  (try simp only [Act.put, uA16, List.setIfInBounds_toArray, List.set_cons_zero, List.set_cons_succ])
  refine tkW (v := ?_) 17 uA17 rfl (by kernel_rfl) (by kernel_rfl) (by kernel_rfl) (fun _ _ _ h => h) (by rfl) ?_ (by assumption) ?_
  rotate_left
  · intro w hSw; (try dsimp only at hSw); go_simp; (try with_reducible rfl)
  (try simp only [Act.put, uA17, List.setIfInBounds_toArray, List.set_cons_zero, List.set_cons_succ])
  refine tkW (v := ?_) 18 uA18 rfl (by kernel_rfl) (by kernel_rfl) (by kernel_rfl) (fun _ _ _ h => h) (by rfl) ?_ (by assumption) ?_
  rotate_left
  · intro w hSw; (try dsimp only at hSw); go_simp; (try with_reducible rfl)
  (try simp only [Act.put, uA18, List.setIfInBounds_toArray, List.set_cons_zero, List.set_cons_succ])
  refine tkW (v := ?_) 19 uA19 rfl (by kernel_rfl) (by kernel_rfl) (by kernel_rfl) (fun _ _ _ h => h) (by rfl) ?_ (by assumption) ?_
  rotate_left
  · intro w hSw; (try dsimp only at hSw); go_simp; (try with_reducible rfl)
  (try simp only [Act.put, uA19, List.setIfInBounds_toArray, List.set_cons_zero, List.set_cons_succ])
  refine tkW (v := ?_) 20 uA20 rfl (by kernel_rfl) (by kernel_rfl) (by kernel_rfl) (fun _ _ _ h => h) (by rfl) ?_ (by assumption) ?_
  rotate_left
  · intro w hSw; (try dsimp only at hSw); go_simp; (try with_reducible rfl)
  (try simp only [Act.put, uA20, List.setIfInBounds_toArray, List.set_cons_zero, List.set_cons_succ])
  refine tkW (v := ?_) 21 uA21 rfl (by kernel_rfl) (by kernel_rfl) (by kernel_rfl) (fun _ _ _ h => h) (by rfl) ?_ (by assumption) ?_
  rotate_left
  · intro w hSw; (try dsimp only at hSw); go_simp; (try with_reducible rfl)
  (try simp only [Act.put, uA21, List.setIfInBounds_toArray, List.set_cons_zero, List.set_cons_succ])
  refine tkW (v := ?_) 22 uA22 rfl (by kernel_rfl) (by kernel_rfl) (by kernel_rfl) (fun _ _ _ h => h) (by rfl) ?_ (by assumption) ?_
  rotate_left
  · intro w hSw; (try dsimp only at hSw); go_simp; (try with_reducible rfl)
  (try simp only [Act.put, uA22, List.setIfInBounds_toArray, List.set_cons_zero, List.set_cons_succ])
  refine tkW (v := ?_) 23 uA23 rfl (by kernel_rfl) (by kernel_rfl) (by kernel_rfl) (fun _ _ _ h => h) (by rfl) ?_ (by assumption) ?_
  rotate_left
  · intro w hSw; (try dsimp only at hSw); go_simp; (try with_reducible rfl)
  (try simp only [Act.put, uA23, List.setIfInBounds_toArray, List.set_cons_zero, List.set_cons_succ])
  refine tkW (v := ?_) 24 uA24 rfl (by kernel_rfl) (by kernel_rfl) (by kernel_rfl) (fun _ _ _ h => h) (by rfl) ?_ (by assumption) ?_
  rotate_left
  · intro w hSw; (try dsimp only at hSw); go_simp; (try with_reducible rfl)
  (try simp only [Act.put, uA24, List.setIfInBounds_toArray, List.set_cons_zero, List.set_cons_succ])
  refine tkW (v := ?_) 25 uA25 rfl (by kernel_rfl) (by kernel_rfl) (by kernel_rfl) (fun _ _ _ h => h) (by rfl) ?_ (by assumption) ?_
  rotate_left
  · intro w hSw; (try dsimp only at hSw); go_simp; (try with_reducible rfl)
  (try simp only [Act.put, uA25, List.setIfInBounds_toArray, List.set_cons_zero, List.set_cons_succ])
  refine tkW (v := ?_) 26 uA26 rfl (by kernel_rfl) (by kernel_rfl) (by kernel_rfl) (fun _ _ _ h => h) (by rfl) ?_ (by assumption) ?_
  rotate_left
  · intro w hSw; (try dsimp only at hSw); go_simp; (try with_reducible rfl)
  (try simp only [Act.put, uA26, List.setIfInBounds_toArray, List.set_cons_zero, List.set_cons_succ])
  refine tkW (v := ?_) 27 uA27 rfl (by kernel_rfl) (by kernel_rfl) (by kernel_rfl) (fun _ _ _ h => h) (by rfl) ?_ (by assumption) ?_
  rotate_left
  · intro w hSw; (try dsimp only at hSw); go_simp; (try with_reducible rfl)
  (try simp only [Act.put, uA27, List.setIfInBounds_toArray, List.set_cons_zero, List.set_cons_succ])
  refine tkW (v := ?_) 28 uA28 rfl (by kernel_rfl) (by kernel_rfl) (by kernel_rfl) (fun _ _ _ h => h) (by rfl) ?_ (by assumption) ?_
  rotate_left
  · intro w hSw; (try dsimp only at hSw); go_simp; (try with_reducible rfl)
  (try simp only [Act.put, uA28, List.setIfInBounds_toArray, List.set_cons_zero, List.set_cons_succ])
  refine tkW (v := ?_) 29 uA29 rfl (by kernel_rfl) (by kernel_rfl) (by kernel_rfl) (fun _ _ _ h => h) (by rfl) ?_ (by assumption) ?_
  rotate_left
  · intro w hSw; (try dsimp only at hSw); go_simp; (try with_reducible rfl)
  (try simp only [Act.put, uA29, List.setIfInBounds_toArray, List.set_cons_zero, List.set_cons_succ])
  refine tkW (v := ?_) 30 uA30 rfl (by kernel_rfl) (by kernel_rfl) (by kernel_rfl) (fun _ _ _ h => h) (by rfl) ?_ (by assumption) ?_
  rotate_left
  · intro w hSw; (try dsimp only at hSw); go_simp; (try with_reducible rfl)
  (try simp only [Act.put, uA30, List.setIfInBounds_toArray, List.set_cons_zero, List.set_cons_succ])
  refine wpAnyH_done (by kernel_rfl) ?_ _
  obtain ⟨X, hX⟩ : ∃ x, x = V.drew := ⟨_, rfl⟩
  have hBX : X.heap[w.heap.size + 1]? = some (.cells #[.bool false, .int .i64 0, .slice none 0 0, .slice none 0 0] 24 (0, 0)) := by rw [hX]; exact hBV
  have kx : Kp V X := by rw [hX]; exact Kp.drew _
  have KX := Lib.hid kx
  have KWX := Lib.hid (KV.out.trans kx)
  rw [← hX]
  clear hX hBV kx
  have CA := Lib.hid (fun w2 (kk : Kp X w2) => rclip_any _ ag 0 (greatR bg) w2 (OKV.out.a.kp (KX.out.trans kk)) OKV.out.ia (by omega) ii1)
  have CB := Lib.hid (fun w2 (kk : Kp X w2) => rclip_any _ bg (leastR ag) 3652424 w2 (OKV.out.b.kp (KX.out.trans kk)) OKV.out.ib (by omega) ii2)
  have HX := Lib.hid (fun w' (k : Kp X w') => show w'.cell? ⟨w1.heap.size, 0, none⟩ = some (.bool true) ∧ w'.cell? ⟨w1.heap.size, 1, none⟩ = some (.int .i64 ug) ∧ w'.cell? ⟨w1.heap.size, 2, none⟩ = some (.slice (some ⟨ba, oa, none⟩) ag.length cag) ∧ w'.cell? ⟨w1.heap.size, 3, none⟩ = some (.slice (some ⟨bb, ob, none⟩) bg.length cbg) ∧ w'.cell? ⟨ba, oa, none⟩ = some (.int .i64 (leastR ag)) ∧ w'.cell? ⟨ba, oa + (ag.length - 1) * 2 + 1, none⟩ = some (.int .i64 (greatR ag)) ∧ w'.cell? ⟨bb, ob, none⟩ = some (.int .i64 (leastR bg)) ∧ w'.cell? ⟨bb, ob + (bg.length - 1) * 2 + 1, none⟩ = some (.int .i64 (greatR bg)) ∧ Kp X w' from by have h := HB.out w' (KX.out.trans k); exact ⟨h.1, h.2.1, h.2.2.1, h.2.2.2.1, h.2.2.2.2.1, h.2.2.2.2.2.1, h.2.2.2.2.2.2.1, h.2.2.2.2.2.2.2.1, k⟩)
  obtain ⟨c0, c1, c2, c3, c4, c5, c6, c7, _⟩ := HX.out X (Kp.refl _)
  go_wp2_with fail
  refine wp_region_held_drew (S := fun w' => w'.cell? ⟨w1.heap.size, 0, none⟩ = some (.bool true) ∧ w'.cell? ⟨w1.heap.size, 1, none⟩ = some (.int .i64 ug) ∧ w'.cell? ⟨w1.heap.size, 2, none⟩ = some (.slice (some ⟨ba, oa, none⟩) ag.length cag) ∧ w'.cell? ⟨w1.heap.size, 3, none⟩ = some (.slice (some ⟨bb, ob, none⟩) bg.length cbg) ∧ w'.cell? ⟨ba, oa, none⟩ = some (.int .i64 (leastR ag)) ∧ w'.cell? ⟨ba, oa + (ag.length - 1) * 2 + 1, none⟩ = some (.int .i64 (greatR ag)) ∧ w'.cell? ⟨bb, ob, none⟩ = some (.int .i64 (leastR bg)) ∧ w'.cell? ⟨bb, ob + (bg.length - 1) * 2 + 1, none⟩ = some (.int .i64 (greatR bg)) ∧ Kp X w') (by kernel_rfl) ?_ (fun hHeld0 => ?_)
  · (try dsimp only); exact HX.out _ (by first | assumption | exact Kp.drew _)
  refine tkW (v := ?_) 0 uB0 rfl (by kernel_rfl) (by kernel_rfl) (by kernel_rfl) (fun _ _ _ h => h) (by rfl) ?_ (by assumption) ?_
  rotate_left
  · intro w hSw; (try dsimp only at hSw); go_simp; (try with_reducible rfl)
  (try simp only [Act.put, uB0, List.setIfInBounds_toArray, List.set_cons_zero, List.set_cons_succ])
  refine tkW (v := ?_) 1 uB1 rfl (by kernel_rfl) (by kernel_rfl) (by kernel_rfl) (fun _ _ _ h => h) (by rfl) ?_ (by assumption) ?_
  rotate_left
  · intro w hSw; (try dsimp only at hSw); go_simp; (try with_reducible rfl)
  (try simp only [Act.put, uB1, List.setIfInBounds_toArray, List.set_cons_zero, List.set_cons_succ])
  refine tkW (v := ?_) 2 uB2 rfl (by kernel_rfl) (by kernel_rfl) (by kernel_rfl) (fun _ _ _ h => h) (by rfl) ?_ (by assumption) ?_
  rotate_left
  · intro w hSw; (try dsimp only at hSw); go_simp; (try with_reducible rfl)
  (try simp only [Act.put, uB2, List.setIfInBounds_toArray, List.set_cons_zero, List.set_cons_succ])
  refine tkW (v := ?_) 3 uB3 rfl (by kernel_rfl) (by kernel_rfl) (by kernel_rfl) (fun _ _ _ h => h) (by rfl) ?_ (by assumption) ?_
  rotate_left
  · intro w hSw; (try dsimp only at hSw); go_simp; (try with_reducible rfl)
  (try simp only [Act.put, uB3, List.setIfInBounds_toArray, List.set_cons_zero, List.set_cons_succ])
  refine tkW (v := ?_) 4 uB4 rfl (by kernel_rfl) (by kernel_rfl) (by kernel_rfl) (fun _ _ _ h => h) (by rfl) ?_ (by assumption) ?_
  rotate_left
  · intro w hSw; (try dsimp only at hSw); go_simp; (try with_reducible rfl)
  (try simp only [Act.put, uB4, List.setIfInBounds_toArray, List.set_cons_zero, List.set_cons_succ])
  refine tkW (v := ?_) 5 uB5 rfl (by kernel_rfl) (by kernel_rfl) (by kernel_rfl) (fun _ _ _ h => h) (by rfl) ?_ (by assumption) ?_
  rotate_left
  · intro w hSw; (try dsimp only at hSw); go_simp; (try with_reducible rfl)
  (try simp only [Act.put, uB5, List.setIfInBounds_toArray, List.set_cons_zero, List.set_cons_succ])
  refine tkW (v := ?_) 6 uB6 rfl (by kernel_rfl) (by kernel_rfl) (by kernel_rfl) (fun _ _ _ h => h) (by rfl) ?_ (by assumption) ?_
  rotate_left
  · intro w hSw; (try dsimp only at hSw); go_simp; (try with_reducible rfl)
  (try simp only [Act.put, uB6, List.setIfInBounds_toArray, List.set_cons_zero, List.set_cons_succ])
  refine tkW (v := ?_) 7 uB7 rfl (by kernel_rfl) (by kernel_rfl) (by kernel_rfl) (fun _ _ _ h => h) (by rfl) ?_ (by assumption) ?_
  rotate_left
  · intro w hSw; (try dsimp only at hSw); go_simp; (try with_reducible rfl)
  (try simp only [Act.put, uB7, List.setIfInBounds_toArray, List.set_cons_zero, List.set_cons_succ])
  refine tkW (v := ?_) 8 uB8 rfl (by kernel_rfl) (by kernel_rfl) (by kernel_rfl) (fun _ _ _ h => h) (by rfl) ?_ (by assumption) ?_
  rotate_left
  · intro w hSw; (try dsimp only at hSw); go_simp; (try with_reducible rfl)
  (try simp only [Act.put, uB8, List.setIfInBounds_toArray, List.set_cons_zero, List.set_cons_succ])
  refine tkW (v := ?_) 9 uB9 rfl (by kernel_rfl) (by kernel_rfl) (by kernel_rfl) (fun _ _ _ h => h) (by rfl) ?_ (by assumption) ?_
  rotate_left
  · intro w hSw; (try dsimp only at hSw); go_simp; (try with_reducible rfl)
  (try simp only [Act.put, uB9, List.setIfInBounds_toArray, List.set_cons_zero, List.set_cons_succ])
  refine tkW (v := ?_) 10 uB10 rfl (by kernel_rfl) (by kernel_rfl) (by kernel_rfl) (fun _ _ _ h => h) (by rfl) ?_ (by assumption) ?_
  rotate_left
  · intro w hSw; (try dsimp only at hSw); go_simp; (try with_reducible rfl)
  (try simp only [Act.put, uB10, List.setIfInBounds_toArray, List.set_cons_zero, List.set_cons_succ])
  refine tkE 11 uB11 rfl (by kernel_rfl) (fun K hK => ?_)
  go_simp
  (refine (CA.out _ (by first | assumption | exact Kp.drew _)).mono ?_; rintro e w' ⟨v4, rfl, r4, k1⟩; have k2 := Kp.trans (show Kp X _ from (by first | assumption | exact Kp.drew _)) k1; clear k1)
  (try go_wp2_with fail)
  refine hK.out _ _ ?_ (fun hHeld1 => ?_)
  · (try dsimp only); exact HX.out _ (by first | assumption | exact Kp.drew _)
  clear hK K hHeld0
  (try simp only [Act.put, uB11, List.setIfInBounds_toArray, List.set_cons_zero, List.set_cons_succ])
  refine tkW (v := ?_) 12 uB12 rfl (by kernel_rfl) (by kernel_rfl) (by kernel_rfl) (fun _ _ _ h => h) (by rfl) ?_ (by assumption) ?_
  rotate_left
  · intro w hSw; (try dsimp only at hSw); go_simp; (try with_reducible rfl)
  (try simp only [Act.put, uB12, List.setIfInBounds_toArray, List.set_cons_zero, List.set_cons_succ])
  refine wpAnyH_done (by kernel_rfl) ?_ _
  obtain ⟨Y, hY⟩ : ∃ x : World, x = w' := ⟨_, rfl⟩
  subst hY
  obtain ⟨ad4, c4', rfl⟩ := r4.slice
  have R4 := Lib.hid r4
  have KY := Lib.hid k2
  have HY := Lib.hid (fun w' (k : Kp Y w') => show w'.cell? ⟨w1.heap.size, 0, none⟩ = some (.bool true) ∧ w'.cell? ⟨w1.heap.size, 1, none⟩ = some (.int .i64 ug) ∧ w'.cell? ⟨w1.heap.size, 2, none⟩ = some (.slice (some ⟨ba, oa, none⟩) ag.length cag) ∧ w'.cell? ⟨w1.heap.size, 3, none⟩ = some (.slice (some ⟨bb, ob, none⟩) bg.length cbg) ∧ w'.cell? ⟨ba, oa, none⟩ = some (.int .i64 (leastR ag)) ∧ w'.cell? ⟨ba, oa + (ag.length - 1) * 2 + 1, none⟩ = some (.int .i64 (greatR ag)) ∧ w'.cell? ⟨bb, ob, none⟩ = some (.int .i64 (leastR bg)) ∧ w'.cell? ⟨bb, ob + (bg.length - 1) * 2 + 1, none⟩ = some (.int .i64 (greatR bg)) ∧ Kp Y w' from by have h := HX.out w' (KY.out.trans k); exact ⟨h.1, h.2.1, h.2.2.1, h.2.2.2.1, h.2.2.2.2.1, h.2.2.2.2.2.1, h.2.2.2.2.2.2.1, h.2.2.2.2.2.2.2.1, k⟩)
  clear c0 c1 c2 c3 c4 c5 c6 c7 r4 k2
  obtain ⟨c0, c1, c2, c3, c4, c5, c6, c7, _⟩ := HY.out Y (Kp.refl _)
  go_wp2_with fail
  refine wp_region_held_drew (S := fun w' => w'.cell? ⟨w1.heap.size, 0, none⟩ = some (.bool true) ∧ w'.cell? ⟨w1.heap.size, 1, none⟩ = some (.int .i64 ug) ∧ w'.cell? ⟨w1.heap.size, 2, none⟩ = some (.slice (some ⟨ba, oa, none⟩) ag.length cag) ∧ w'.cell? ⟨w1.heap.size, 3, none⟩ = some (.slice (some ⟨bb, ob, none⟩) bg.length cbg) ∧ w'.cell? ⟨ba, oa, none⟩ = some (.int .i64 (leastR ag)) ∧ w'.cell? ⟨ba, oa + (ag.length - 1) * 2 + 1, none⟩ = some (.int .i64 (greatR ag)) ∧ w'.cell? ⟨bb, ob, none⟩ = some (.int .i64 (leastR bg)) ∧ w'.cell? ⟨bb, ob + (bg.length - 1) * 2 + 1, none⟩ = some (.int .i64 (greatR bg)) ∧ Kp Y w') (by kernel_rfl) ?_ (fun hHeld0 => ?_)
  · (try dsimp only); exact HY.out _ (by first | assumption | exact Kp.drew _)
  refine tkW (v := ?_) 0 uC0 rfl (by kernel_rfl) (by kernel_rfl) (by kernel_rfl) (fun _ _ _ h => h) (by rfl) ?_ (by assumption) ?_
  rotate_left
  · intro w hSw; (try dsimp only at hSw); go_simp; (try with_reducible rfl)
  (try simp only [Act.put, uC0, List.setIfInBounds_toArray, List.set_cons_zero, List.set_cons_succ])
  refine tkW (v := ?_) 1 uC1 rfl (by kernel_rfl) (by kernel_rfl) (by kernel_rfl) (fun _ _ _ h => h) (by rfl) ?_ (by assumption) ?_
  rotate_left
  · intro w hSw; (try dsimp only at hSw); go_simp; (try with_reducible rfl)
  (try simp only [Act.put, uC1, List.setIfInBounds_toArray, List.set_cons_zero, List.set_cons_succ])
  refine tkW (v := ?_) 2 uC2 rfl (by kernel_rfl) (by kernel_rfl) (by kernel_rfl) (fun _ _ _ h => h) (by rfl) ?_ (by assumption) ?_
  rotate_left
  · intro w hSw; (try dsimp only at hSw); go_simp; (try with_reducible rfl)
  (try simp only [Act.put, uC2, List.setIfInBounds_toArray, List.set_cons_zero, List.set_cons_succ])
  refine tkW (v := ?_) 3 uC3 rfl (by kernel_rfl) (by kernel_rfl) (by kernel_rfl) (fun _ _ _ h => h) (by rfl) ?_ (by assumption) ?_
  rotate_left
  · intro w hSw; (try dsimp only at hSw); go_simp; (try with_reducible rfl)
  (try simp only [Act.put, uC3, List.setIfInBounds_toArray, List.set_cons_zero, List.set_cons_succ])
  refine tkW (v := ?_) 4 uC4 rfl (by kernel_rfl) (by kernel_rfl) (by kernel_rfl) (fun _ _ _ h => h) (by rfl) ?_ (by assumption) ?_
  rotate_left
  · intro w hSw; (try dsimp only at hSw); go_simp; (try with_reducible rfl)
  (try simp only [Act.put, uC4, List.setIfInBounds_toArray, List.set_cons_zero, List.set_cons_succ])
  refine tkW (v := ?_) 5 uC5 rfl (by kernel_rfl) (by kernel_rfl) (by kernel_rfl) (fun _ _ _ h => h) (by rfl) ?_ (by assumption) ?_
  rotate_left
  · intro w hSw; (try dsimp only at hSw); go_simp; (try with_reducible rfl)
  (try simp only [Act.put, uC5, List.setIfInBounds_toArray, List.set_cons_zero, List.set_cons_succ])
  refine tkW (v := ?_) 6 uC6 rfl (by kernel_rfl) (by kernel_rfl) (by kernel_rfl) (fun _ _ _ h => h) (by rfl) ?_ (by assumption) ?_
  rotate_left
  · intro w hSw; (try dsimp only at hSw); go_simp; (try with_reducible rfl)
  (try simp only [Act.put, uC6, List.setIfInBounds_toArray, List.set_cons_zero, List.set_cons_succ])
  refine tkE 7 uC7 rfl (by kernel_rfl) (fun K hK => ?_)
  go_simp
  (refine (CB.out _ (KY.out.trans (by first | assumption | exact Kp.drew _))).mono ?_; rintro e w' ⟨v5, rfl, r5, k1⟩; have k2 := Kp.trans (show Kp Y _ from (by first | assumption | exact Kp.drew _)) k1; clear k1)
  (try go_wp2_with fail)
  refine hK.out _ _ ?_ (fun hHeld1 => ?_)
  · (try dsimp only); exact HY.out _ (by first | assumption | exact Kp.drew _)
  clear hK K hHeld0
  (try simp only [Act.put, uC7, List.setIfInBounds_toArray, List.set_cons_zero, List.set_cons_succ])
  refine tkW (v := ?_) 8 uC8 rfl (by kernel_rfl) (by kernel_rfl) (by kernel_rfl) (fun _ _ _ h => h) (by rfl) ?_ (by assumption) ?_
  rotate_left
  · intro w hSw; (try dsimp only at hSw); go_simp; (try with_reducible rfl)
  (try simp only [Act.put, uC8, List.setIfInBounds_toArray, List.set_cons_zero, List.set_cons_succ])
  refine wpAnyH_done (by kernel_rfl) ?_ _
  obtain ⟨Z, hZ⟩ : ∃ x : World, x = w' := ⟨_, rfl⟩
  subst hZ
  obtain ⟨ad5, c5', rfl⟩ := r5.slice
  have R5 := Lib.hid r5
  have R6 := Lib.hid (R4.out.kp k2)
  have hBZ := heap_block (KY.out.trans k2) hBX
  have KZ := Lib.hid (KWX.out.trans (KY.out.trans k2))
  clear r5 k2 c0 c1 c2 c3 c4 c5 c6 c7
  have r0 : Z.cell? ⟨w.heap.size + 1, 0, none⟩ = some (.bool false) := by simp [World.cell?, hBZ]
  have f0 : Z.frozen? ⟨w.heap.size + 1, 0, none⟩ = false := by simp [World.frozen?, hBZ]
  have r1 : Z.cell? ⟨w.heap.size + 1, 1, none⟩ = some (.int .i64 0) := by simp [World.cell?, hBZ]
  have f1 : Z.frozen? ⟨w.heap.size + 1, 1, none⟩ = false := by simp [World.frozen?, hBZ]
  have r2 : Z.cell? ⟨w.heap.size + 1, 2, none⟩ = some (.slice none 0 0) := by simp [World.cell?, hBZ]
  have f2 : Z.frozen? ⟨w.heap.size + 1, 2, none⟩ = false := by simp [World.frozen?, hBZ]
  have r3 : Z.cell? ⟨w.heap.size + 1, 3, none⟩ = some (.slice none 0 0) := by simp [World.cell?, hBZ]
  have f3 : Z.frozen? ⟨w.heap.size + 1, 3, none⟩ = false := by simp [World.frozen?, hBZ]
  go_wp2
  have RD0 := set4_read hBZ (.bool true) (.int .i64 0) (.slice ad4 (interR ag [(0, greatR bg)]).length c4') (.slice ad5 (interR bg [(leastR ag, 3652424)]).length c5') (Kp.refl _)
  exact bodyPost_ret (v := .agg #[.bool true, .int .i64 0, .slice ad4 (interR ag [(0, greatR bg)]).length c4', .slice ad5 (interR bg [(leastR ag, 3652424)]).length c5']) (by simp [results, Tryz.f30, go_sem, RD0]) rfl ⟨_, _, rfl, ⟨R6.out.off hBZ (set4_cell _ _ _ _ _ _), R5.out.off hBZ (set4_cell _ _ _ _ _ _), sane_i64 (interR_sane _ _), sane_i64 (interR_sane _ _), Nat.le_trans (interR_bd (q := 1) na (by simp)) (by omega), Nat.le_trans (interR_bd (q := 1) nb (by simp)) (by omega)⟩, set4_below KZ.out (w.heap.size + 1) (by omega) _ _ _ _⟩
theorem refTidy_any (f : LF) (va vb : Value) (w : World) (h : LeafOk w f va vb) :
    Calls Tryz.prog 30 #[leafV f va vb] w fun e w' => ∃ va' vb', e = .returned (leafV (lfOf (famR f)) va' vb') ∧ LeafOk w' (lfOf (famR f)) va' vb' ∧ Kp w w' := by
  have hi : I64R (asL f).a ∧ I64R (asL f).b := by
    unfold asL
    split
    · exact ⟨h.ia, h.ib⟩
    · exact ⟨fun r hr => (by cases hr), fun r hr => (by cases hr)⟩
  rw [← tidL_as f]
  obtain ⟨spg, ug, ag, bg, e⟩ : ∃ s u a b, asL f = ⟨s, u, a, b⟩ := ⟨_, _, _, _, rfl⟩
  rw [e] at hi ⊢
  simp only at hi
  by_cases h0 : ag.length = 0
  · rw [show tidL ⟨spg, ug, ag, bg⟩ = lf0 from if_pos (by unfold goneB; simp [h0])]
    exact refTidy_1 spg ug ag bg hi.1 hi.2 f va vb w h e h0
  · rcases Bool.eq_false_or_eq_true spg with hs | hs
    · by_cases h1 : bg.length = 0
      · rw [show tidL ⟨spg, ug, ag, bg⟩ = lf0 from if_pos (by unfold goneB; simp [hs, h1])]
        exact refTidy_3 spg ug ag bg hi.1 hi.2 f va vb w h e h0 hs h1
      · by_cases hg : greatR bg < leastR ag
        · rw [show tidL ⟨spg, ug, ag, bg⟩ = lf0 from if_pos (by unfold goneB; simp [hs, hg])]
          exact refTidy_4 spg ug ag bg hi.1 hi.2 f va vb w h e h0 hs h1 hg
        · have e2 : tidL ⟨spg, ug, ag, bg⟩ = ⟨true, 0, interR ag [(0, greatR bg)], interR bg [(leastR ag, 3652424)]⟩ := by
            unfold tidL
            rw [if_neg, if_pos hs]
            unfold goneB
            rw [decide_eq_false h0, decide_eq_false h1, decide_eq_false hg, hs]
            simp
          rw [e2]
          exact refTidy_5 spg ug ag bg hi.1 hi.2 f va vb w h e h0 hs h1 hg
    · have e2 : tidL ⟨spg, ug, ag, bg⟩ = ⟨false, ug, ag, bg⟩ := by
        unfold tidL
        rw [if_neg, if_neg (by rw [hs]; simp), hs]
        unfold goneB
        rw [decide_eq_false h0, hs]
        simp
      rw [e2]
      exact refTidy_2 spg ug ag bg hi.1 hi.2 f va vb w h e h0 hs
end Go.Proofs.YtfphmhdgnokopaaGreatDoor
