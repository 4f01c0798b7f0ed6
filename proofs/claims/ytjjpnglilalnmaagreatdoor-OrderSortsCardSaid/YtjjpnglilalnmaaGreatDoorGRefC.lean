/-
  Joined: RefL, RefM, RefN, RefO, EnvG, EnvH, EnvI, 16D, Ref21.
-/
import Derived.Test.YtjjpnglilalnmaaGreatDoorGLeafA
import Derived.Test.YtjjpnglilalnmaaGreatDoorGSetA
import Derived.Test.YtjjpnglilalnmaaGreatDoorGImgC
import Derived.Test.YtjjpnglilalnmaaGreatDoorGUnit
import Derived.LoopTactic
import Derived.Test.YtjjpnglilalnmaaGreatDoorGLeafB
import Derived.Test.YtjjpnglilalnmaaGreatDoorGEnv
import Derived.StillTailTactics
import Derived.Test.YtjjpnglilalnmaaGreatDoorGOrdB
namespace Go.Proofs.YtjjpnglilalnmaaGreatDoor
open Go.RowKit
set_option linter.unusedVariables false
set_option linter.unusedSimpArgs false
def withB (most : Int) (s : List R) : Bool := saneB s && (decide (s.length = 0) || (decide (0 ≤ leastR s) && decide (greatR s ≤ most)))
theorem withB_setB (k : Int) (s : List R) : withB (cnt k - 1) s = setB k s := by
  unfold withB setB
  have : decide (greatR s ≤ cnt k - 1) = decide (greatR s < cnt k) := by
    by_cases h : greatR s < cnt k
    · rw [decide_eq_true h, decide_eq_true (by omega)]
    · rw [decide_eq_false h, decide_eq_false (by omega)]
  rw [this]
theorem withB_day (s : List R) : withB 3652424 s = setB 0 s := by
  rw [← withB_setB, cnt_zero]
  rfl
/-- the first and the last run's numbers -/
theorem ends_at {w : World} {v : Value} {l : List R} (h : RunsAt w v l) (h0 : 0 < l.length) : ∃ b off c, v = .slice (some ⟨b, off, none⟩) l.length c ∧ w.cell? ⟨b, off, none⟩ = some (.int .i64 (leastR l)) ∧ w.cell? ⟨b, off + (l.length - 1) * 2 + 1, none⟩ = some (.int .i64 (greatR l)) := by
  rcases h with ⟨_, _, _, e⟩ | ⟨b, off, cap, ev, hc, hm, hx⟩
  · rw [e] at h0; simp at h0
  · refine ⟨b, off, cap, ev, ?_, (hx (l.length - 1) (by omega)).2⟩
    have := (hx 0 h0).1
    rwa [Nat.zero_mul, Nat.add_zero] at this
set_option maxHeartbeats 16000000 in
set_option maxRecDepth 100000 in
theorem rwithin_any (v : Value) (l : List R) (m : Int) (w : World) (hv : RunsAt w v l) (hl : I64R l) (hn : l.length ≤ 1000000) :
    Calls Tryz.prog 115 #[v, .int .i64 m] w fun e w' => e = .returned (.bool (withB m l)) ∧ Kp w w' := by
  have C := Lib.hid (rsane_any v l w hv hl)
  rw [show withB m l = (saneB l && (decide (l.length = 0) || (decide (0 ≤ leastR l) && decide (greatR l ≤ m)))) from rfl]
  by_cases h0 : l.length = 0
  · obtain ⟨ad, cp, rfl⟩ := hv.slice
    have q : ((l.length : Int) == 0) = true := by rw [h0]; rfl
    rw [decide_eq_true h0]
    clear h0 hv hl hn
    generalize saneB l = s at *
    cases s
    all_goals
      go_enter Tryz.func115, Tryz.ntmps115
      go_wp2_with fail
      refine (C.out).mono ?_
      rintro e w1 ⟨rfl, kk⟩
      have K := Lib.hid kk
      clear kk C
      go_wp2
      go_ret
      exact ⟨by first | rfl | simp | simp [*], K.out⟩
  · have q : ((l.length : Int) == 0) = false := beq_eq_false_iff_ne.2 (by omega)
    have E := Lib.hid (fun w1 (kk : Kp w w1) => ends_at (hv.kp kk) (by omega))
    obtain ⟨b, off, cp, ev, c0, c1⟩ := ends_at hv (by omega)
    cases ev
    have D0 := Lib.hid (fun w1 (kk : Kp w w1) => cell_up kk c0)
    have D1 := Lib.hid (fun w1 (kk : Kp w w1) => cell_up kk c1)
    have ws : IntKind.i64.wrap ((l.length : Int) - 1) = ((l.length - 1 : Nat) : Int) := by rw [show (l.length : Int) - 1 = ((l.length - 1 : Nat) : Int) by omega]; exact IntWalk.i64_in _ (by omega)
    have wt : (l.length : Int) - 1 = ((l.length - 1 : Nat) : Int) := by omega
    have wu : IntKind.i64.wrap ((l.length - 1 : Nat) : Int) = ((l.length - 1 : Nat) : Int) := IntWalk.i64_in _ (by omega)
    have wx : l.length - 1 < l.length := by omega
    have wz : 0 < l.length := by omega
    have wy : ((l.length - 1 : Nat) : Int) < (l.length : Int) := by omega
    have wv : (0 : Int) ≤ ((l.length - 1 : Nat) : Int) := by omega
    rw [decide_eq_false h0]
    clear h0 hv hl E c0 c1
    generalize l.length - 1 = n1 at *
    generalize saneB l = s at *
    generalize leastR l = x at *
    generalize greatR l = y at *
    obtain ⟨qa, hqa⟩ : ∃ qa, decide (0 ≤ x) = qa := ⟨_, rfl⟩
    obtain ⟨qb, hqb⟩ : ∃ qb, decide (y ≤ m) = qb := ⟨_, rfl⟩
    rw [hqa, hqb]
    cases s <;> cases qa
    all_goals
      go_enter Tryz.func115, Tryz.ntmps115
      go_wp2_with fail
      refine (C.out).mono ?_
      rintro e w1 ⟨rfl, kk⟩
      have K := Lib.hid kk
      have e0 := D0.out w1 kk
      have e1 := D1.out w1 kk
      clear kk C
      go_wp2
      go_ret
      exact ⟨by first | rfl | simp | simp [*], K.out⟩
abbrev rS0 : Oper := { dst := some 18, op := Go.Op.fieldAddr 51 (Go.Operand.tmp 1) 1, type := 0, pos := "ref.go:22", after := #[], guard := none }
abbrev rS1 : Oper := { dst := some 19, op := Go.Op.load 3 (Go.Operand.tmp 18), type := 3, pos := "ref.go:22", after := #[{ on := 0, ground := Go.Ground.data }], guard := none }
abbrev rS2 : Oper := { dst := some 20, op := Go.Op.binOp Go.BinOp.geq 3 (Go.Operand.tmp 19) (Go.Operand.const (Go.Value.int Go.IntKind.i64 0)) 3, type := 4, pos := "ref.go:22", after := #[{ on := 1, ground := Go.Ground.data }], guard := none }
abbrev rS3 : Oper := { dst := some 21, op := Go.Op.move (Go.Operand.tmp 20), type := 4, pos := "ref.go:22", after := #[{ on := 2, ground := Go.Ground.data }], guard := none }
abbrev rS4 : Oper := { dst := some 22, op := Go.Op.fieldAddr 51 (Go.Operand.tmp 1) 1, type := 0, pos := "ref.go:22", after := #[{ on := 3, ground := Go.Ground.guard }], guard := some (3, true) }
abbrev rS5 : Oper := { dst := some 23, op := Go.Op.load 3 (Go.Operand.tmp 22), type := 3, pos := "ref.go:22", after := #[{ on := 4, ground := Go.Ground.data }, { on := 3, ground := Go.Ground.guard }], guard := some (3, true) }
abbrev rS6 : Oper := { dst := some 24, op := Go.Op.binOp Go.BinOp.leq 3 (Go.Operand.tmp 23) (Go.Operand.const (Go.Value.int Go.IntKind.i64 5)) 3, type := 4, pos := "ref.go:22", after := #[{ on := 5, ground := Go.Ground.data }, { on := 3, ground := Go.Ground.guard }], guard := some (3, true) }
abbrev rS7 : Oper := { dst := some 25, op := Go.Op.pick (Go.Operand.tmp 21) (Go.Operand.tmp 24) (Go.Operand.const (Go.Value.bool false)), type := 4, pos := "ref.go:22", after := #[{ on := 3, ground := Go.Ground.data }, { on := 6, ground := Go.Ground.data }], guard := none }
abbrev rS8 : Oper := { dst := some 26, op := Go.Op.move (Go.Operand.tmp 25), type := 4, pos := "ref.go:22", after := #[{ on := 7, ground := Go.Ground.data }, { on := 3, ground := Go.Ground.chain }], guard := none }
abbrev rS9 : Oper := { dst := some 27, op := Go.Op.fieldAddr 51 (Go.Operand.tmp 1) 2, type := 0, pos := "ref.go:22", after := #[{ on := 8, ground := Go.Ground.guard }], guard := some (8, true) }
abbrev rS10 : Oper := { dst := some 28, op := Go.Op.load 49 (Go.Operand.tmp 27), type := 49, pos := "ref.go:22", after := #[{ on := 9, ground := Go.Ground.data }, { on := 8, ground := Go.Ground.guard }], guard := some (8, true) }
abbrev rS11 : Oper := { dst := some 29, op := Go.Op.fieldAddr 51 (Go.Operand.tmp 1) 1, type := 0, pos := "ref.go:22", after := #[{ on := 8, ground := Go.Ground.guard }], guard := some (8, true) }
abbrev rS12 : Oper := { dst := some 30, op := Go.Op.load 3 (Go.Operand.tmp 29), type := 3, pos := "ref.go:22", after := #[{ on := 11, ground := Go.Ground.data }, { on := 8, ground := Go.Ground.guard }], guard := some (8, true) }
abbrev rS13 : Oper := { dst := some 31, op := Go.Op.call { callee := Go.Callee.value (Go.Operand.func 107), args := #[Go.Operand.tmp 30], argTypes := #[3] }, type := 3, pos := "ref.go:22", after := #[{ on := 12, ground := Go.Ground.data }, { on := 8, ground := Go.Ground.chain }, { on := 8, ground := Go.Ground.guard }], guard := some (8, true) }
abbrev rS14 : Oper := { dst := some 32, op := Go.Op.binOp Go.BinOp.sub 3 (Go.Operand.tmp 31) (Go.Operand.const (Go.Value.int Go.IntKind.i64 1)) 3, type := 3, pos := "ref.go:22", after := #[{ on := 13, ground := Go.Ground.data }, { on := 8, ground := Go.Ground.guard }], guard := some (8, true) }
abbrev rS15 : Oper := { dst := some 33, op := Go.Op.call { callee := Go.Callee.value (Go.Operand.func 115), args := #[Go.Operand.tmp 28, Go.Operand.tmp 32], argTypes := #[49, 3] }, type := 4, pos := "ref.go:22", after := #[{ on := 10, ground := Go.Ground.data }, { on := 14, ground := Go.Ground.data }, { on := 13, ground := Go.Ground.chain }, { on := 8, ground := Go.Ground.guard }], guard := some (8, true) }
abbrev rS16 : Oper := { dst := some 34, op := Go.Op.pick (Go.Operand.tmp 26) (Go.Operand.tmp 33) (Go.Operand.const (Go.Value.bool false)), type := 4, pos := "ref.go:22", after := #[{ on := 8, ground := Go.Ground.data }, { on := 15, ground := Go.Ground.data }], guard := none }
abbrev rS17 : Oper := { dst := some 35, op := Go.Op.move (Go.Operand.tmp 34), type := 4, pos := "ref.go:22", after := #[{ on := 16, ground := Go.Ground.data }, { on := 15, ground := Go.Ground.chain }], guard := none }
abbrev rS18 : Oper := { dst := some 36, op := Go.Op.fieldAddr 51 (Go.Operand.tmp 1) 3, type := 0, pos := "ref.go:22", after := #[{ on := 17, ground := Go.Ground.guard }], guard := some (17, true) }
abbrev rS19 : Oper := { dst := some 37, op := Go.Op.load 49 (Go.Operand.tmp 36), type := 49, pos := "ref.go:22", after := #[{ on := 18, ground := Go.Ground.data }, { on := 17, ground := Go.Ground.guard }], guard := some (17, true) }
abbrev rS20 : Oper := { dst := some 38, op := Go.Op.call { callee := Go.Callee.builtin Go.Builtin.len, args := #[Go.Operand.tmp 37], argTypes := #[49] }, type := 3, pos := "ref.go:22", after := #[{ on := 19, ground := Go.Ground.data }, { on := 17, ground := Go.Ground.guard }], guard := some (17, true) }
abbrev rS21 : Oper := { dst := some 39, op := Go.Op.binOp Go.BinOp.eql 3 (Go.Operand.tmp 38) (Go.Operand.const (Go.Value.int Go.IntKind.i64 0)) 3, type := 4, pos := "ref.go:22", after := #[{ on := 20, ground := Go.Ground.data }, { on := 17, ground := Go.Ground.guard }], guard := some (17, true) }
abbrev rS22 : Oper := { dst := some 40, op := Go.Op.pick (Go.Operand.tmp 35) (Go.Operand.tmp 39) (Go.Operand.const (Go.Value.bool false)), type := 4, pos := "ref.go:22", after := #[{ on := 17, ground := Go.Ground.data }, { on := 21, ground := Go.Ground.data }], guard := none }
abbrev rS23 : Oper := { dst := some 2, op := Go.Op.assign (Go.Operand.tmp 40), type := 4, pos := "ref.go:22", after := #[{ on := 22, ground := Go.Ground.data }, { on := 17, ground := Go.Ground.chain }, { on := 0, ground := Go.Ground.phase }, { on := 1, ground := Go.Ground.phase }, { on := 2, ground := Go.Ground.phase }, { on := 3, ground := Go.Ground.phase }, { on := 4, ground := Go.Ground.phase }, { on := 5, ground := Go.Ground.phase }, { on := 6, ground := Go.Ground.phase }, { on := 7, ground := Go.Ground.phase }, { on := 8, ground := Go.Ground.phase }, { on := 9, ground := Go.Ground.phase }, { on := 10, ground := Go.Ground.phase }, { on := 11, ground := Go.Ground.phase }, { on := 12, ground := Go.Ground.phase }, { on := 13, ground := Go.Ground.phase }, { on := 14, ground := Go.Ground.phase }, { on := 15, ground := Go.Ground.phase }, { on := 16, ground := Go.Ground.phase }, { on := 17, ground := Go.Ground.phase }, { on := 18, ground := Go.Ground.phase }, { on := 19, ground := Go.Ground.phase }, { on := 20, ground := Go.Ground.phase }, { on := 21, ground := Go.Ground.phase }, { on := 22, ground := Go.Ground.phase }], guard := none }
set_option maxHeartbeats 16000000 in
set_option maxRecDepth 100000 in
theorem refSane_any (f : LF) (va vb : Value) (w : World) (ha : RunsAt w va f.a) (hb : RunsAt w vb f.b) (ia : I64R f.a) (ib : I64R f.b) (na : f.a.length ≤ 1000000) (nb : f.b.length ≤ 1000000) :
    Calls Tryz.prog 105 #[leafV f va vb] w fun e w' => e = .returned (.bool (leafB f)) ∧ Kp w w' := by
  obtain ⟨sp, u, a, b⟩ := f
  obtain ⟨ad, ca, rfl⟩ := ha.slice
  obtain ⟨bd, cb, rfl⟩ := hb.slice
  unfold leafV
  simp only at ha hb ia ib na nb ⊢
  cases sp with
  | true =>
    have E : leafB ⟨true, u, a, b⟩ = ((u == 0) && (setB 0 a && setB 0 b)) := rfl
    rw [E]
    have CA := Lib.hid (fun w1 (kk : Kp w w1) => rwithin_any _ a 3652424 w1 (ha.kp kk) ia na)
    have CB := Lib.hid (fun w1 (kk : Kp w w1) => rwithin_any _ b 3652424 w1 (hb.kp kk) ib nb)
    rw [withB_day] at CA CB
    clear ha hb ia ib E
    generalize setB 0 a = sa at *
    generalize setB 0 b = sb at *
    have K0 := Lib.hid (Kp.alloc w (.cells #[.bool true, .int .i64 u, .slice ad a.length ca, .slice bd b.length cb] 51))
    by_cases hu : u = 0
    · subst hu
      cases sa with
      | true =>
        go_enter Tryz.func105, Tryz.ntmps105
        go_wp2_with fail
        refine (CA.out _ K0.out).mono ?_
        rintro e w1 ⟨rfl, kk⟩
        have c3 := (Below.cell (p := ⟨w.heap.size, 3, none⟩) kk (by simp)).trans (show _ = some (.slice bd b.length cb) by simp)
        have K1 := Lib.hid (K0.out.trans kk)
        clear kk
        go_wp2_with fail
        refine (CB.out _ K1.out).mono ?_
        rintro e w2 ⟨rfl, kk⟩
        have K2 := Lib.hid (K1.out.trans kk)
        clear kk
        go_wp2
        go_ret
        exact ⟨rfl, K2.out⟩
      | false =>
        go_enter Tryz.func105, Tryz.ntmps105
        go_wp2_with fail
        refine (CA.out _ K0.out).mono ?_
        rintro e w1 ⟨rfl, kk⟩
        have K1 := Lib.hid (K0.out.trans kk)
        clear kk
        go_wp2
        go_ret
        exact ⟨rfl, K1.out⟩
    · have q : (u == 0) = false := beq_eq_false_iff_ne.2 hu
      go_enter Tryz.func105, Tryz.ntmps105
      go_wp2
      go_ret
      exact ⟨by rw [q]; rfl, K0.out⟩
  | false =>
    have E : leafB ⟨false, u, a, b⟩ = (decide (0 < cnt u) && (setB u a && decide (b.length = 0))) := rfl
    rw [E]
    have CA := Lib.hid (fun w1 (kk : Kp w w1) => rwithin_any _ a (cnt u - 1) w1 (ha.kp kk) ia na)
    rw [withB_setB] at CA
    have CN := Lib.hid (fun w1 => rcount_any u w1)
    have cb1 := cnt_bd u
    have wc : IntKind.i64.wrap (cnt u - 1) = cnt u - 1 := IntWalk.i64_in _ (by omega)
    obtain ⟨W0, hW⟩ : ∃ W0, W0 = w.alloc (.cells #[.bool false, .int .i64 u, .slice ad a.length ca, .slice bd b.length cb] 51) := ⟨_, rfl⟩
    have K0 := Lib.hid (show Kp w W0 by rw [hW]; exact Kp.alloc _ _)
    have HB := Lib.hid (fun w1 (k : Kp W0 w1) => show w1.cell? ⟨w.heap.size, 0, none⟩ = some (.bool false) ∧ w1.cell? ⟨w.heap.size, 1, none⟩ = some (.int .i64 u) ∧ w1.cell? ⟨w.heap.size, 2, none⟩ = some (.slice ad a.length ca) ∧ w1.cell? ⟨w.heap.size, 3, none⟩ = some (.slice bd b.length cb) from ⟨cell_up k (by rw [hW]; simp), cell_up k (by rw [hW]; simp), cell_up k (by rw [hW]; simp), cell_up k (by rw [hW]; simp)⟩)
    have HW := Lib.hid hW
    clear ha hb ia ib E hW
    by_cases u0 : 0 ≤ u
    · by_cases u5 : u ≤ 5
      · have hm : decide (0 < cnt u) = true := decide_eq_true (by unfold cnt; (repeat' split) <;> omega)
        rw [hm]
        have q0 : decide (0 ≤ u) = true := decide_eq_true u0
        have q5 : decide (u ≤ 5) = true := decide_eq_true u5
        generalize cnt u = m at *
        generalize setB u a = sa at *
        obtain ⟨z, hz⟩ : ∃ z, decide (b.length = 0) = z := ⟨_, rfl⟩
        have q : ((b.length : Int) == 0) = z := by rw [← hz]; exact len_zero _
        rw [hz]
        clear hz u0 u5 hm
        cases sa with
        | true =>
          have KS := Lib.hid (fun w' (kq : Kp W0 w') => show w'.cell? ⟨w.heap.size, 0, none⟩ = some (.bool false) ∧ w'.cell? ⟨w.heap.size, 1, none⟩ = some (.int .i64 u) ∧ w'.cell? ⟨w.heap.size, 2, none⟩ = some (.slice ad a.length ca) ∧ w'.cell? ⟨w.heap.size, 3, none⟩ = some (.slice bd b.length cb) ∧ Kp W0 w' from ⟨(HB.out w' kq).1, (HB.out w' kq).2.1, (HB.out w' kq).2.2.1, (HB.out w' kq).2.2.2, kq⟩)
          go_enter Tryz.func105, Tryz.ntmps105
          obtain ⟨c0, c1, c2, c3⟩ := HB.out W0 (Kp.refl _)
          go_wp2_with fail
          rw [← HW.out]
          refine wp_region_held_drew (S := fun w' => w'.cell? ⟨w.heap.size, 0, none⟩ = some (.bool false) ∧ w'.cell? ⟨w.heap.size, 1, none⟩ = some (.int .i64 u) ∧ w'.cell? ⟨w.heap.size, 2, none⟩ = some (.slice ad a.length ca) ∧ w'.cell? ⟨w.heap.size, 3, none⟩ = some (.slice bd b.length cb) ∧ Kp W0 w') (by kernel_rfl) ?_ (fun hHeld0 => ?_)
          · (try dsimp only); exact KS.out _ (by first | assumption | exact Kp.drew _)
          refine tkW (v := ?_) 0 rS0 rfl (by kernel_rfl) (by kernel_rfl) (by kernel_rfl) (fun _ _ _ h => h) (by rfl) ?_ (by assumption) ?_
          rotate_left
          · intro w hSw; (try dsimp only at hSw); go_simp; (try with_reducible rfl)
          (try simp only [Act.put, rS0, List.setIfInBounds_toArray, List.set_cons_zero, List.set_cons_succ])
          refine tkW (v := ?_) 1 rS1 rfl (by kernel_rfl) (by kernel_rfl) (by kernel_rfl) (fun _ _ _ h => h) (by rfl) ?_ (by assumption) ?_
          rotate_left
          · intro w hSw; (try dsimp only at hSw); go_simp; (try with_reducible rfl)
          (try simp only [Act.put, rS1, List.setIfInBounds_toArray, List.set_cons_zero, List.set_cons_succ])
          refine tkW (v := ?_) 2 rS2 rfl (by kernel_rfl) (by kernel_rfl) (by kernel_rfl) (fun _ _ _ h => h) (by rfl) ?_ (by assumption) ?_
          rotate_left
          · intro w hSw; (try dsimp only at hSw); go_simp; (try with_reducible rfl)
          (try simp only [Act.put, rS2, List.setIfInBounds_toArray, List.set_cons_zero, List.set_cons_succ])
          refine tkW (v := ?_) 3 rS3 rfl (by kernel_rfl) (by kernel_rfl) (by kernel_rfl) (fun _ _ _ h => h) (by rfl) ?_ (by assumption) ?_
          rotate_left
          · intro w hSw; (try dsimp only at hSw); go_simp; (try with_reducible rfl)
          (try simp only [Act.put, rS3, List.setIfInBounds_toArray, List.set_cons_zero, List.set_cons_succ])
          refine tkW (v := ?_) 4 rS4 rfl (by kernel_rfl) (by kernel_rfl) (by kernel_rfl) (fun _ _ _ h => h) (by rfl) ?_ (by assumption) ?_
          rotate_left
          · intro w hSw; (try dsimp only at hSw); go_simp; (try with_reducible rfl)
          (try simp only [Act.put, rS4, List.setIfInBounds_toArray, List.set_cons_zero, List.set_cons_succ])
          refine tkW (v := ?_) 5 rS5 rfl (by kernel_rfl) (by kernel_rfl) (by kernel_rfl) (fun _ _ _ h => h) (by rfl) ?_ (by assumption) ?_
          rotate_left
          · intro w hSw; (try dsimp only at hSw); go_simp; (try with_reducible rfl)
          (try simp only [Act.put, rS5, List.setIfInBounds_toArray, List.set_cons_zero, List.set_cons_succ])
          refine tkW (v := ?_) 6 rS6 rfl (by kernel_rfl) (by kernel_rfl) (by kernel_rfl) (fun _ _ _ h => h) (by rfl) ?_ (by assumption) ?_
          rotate_left
          · intro w hSw; (try dsimp only at hSw); go_simp; (try with_reducible rfl)
          (try simp only [Act.put, rS6, List.setIfInBounds_toArray, List.set_cons_zero, List.set_cons_succ])
          refine tkW (v := ?_) 7 rS7 rfl (by kernel_rfl) (by kernel_rfl) (by kernel_rfl) (fun _ _ _ h => h) (by rfl) ?_ (by assumption) ?_
          rotate_left
          · intro w hSw; (try dsimp only at hSw); go_simp; (try with_reducible rfl)
          (try simp only [Act.put, rS7, List.setIfInBounds_toArray, List.set_cons_zero, List.set_cons_succ])
          refine tkW (v := ?_) 8 rS8 rfl (by kernel_rfl) (by kernel_rfl) (by kernel_rfl) (fun _ _ _ h => h) (by rfl) ?_ (by assumption) ?_
          rotate_left
          · intro w hSw; (try dsimp only at hSw); go_simp; (try with_reducible rfl)
          (try simp only [Act.put, rS8, List.setIfInBounds_toArray, List.set_cons_zero, List.set_cons_succ])
          refine tkW (v := ?_) 9 rS9 rfl (by kernel_rfl) (by kernel_rfl) (by kernel_rfl) (fun _ _ _ h => h) (by rfl) ?_ (by assumption) ?_
          rotate_left
          · intro w hSw; (try dsimp only at hSw); go_simp; (try with_reducible rfl)
          (try simp only [Act.put, rS9, List.setIfInBounds_toArray, List.set_cons_zero, List.set_cons_succ])
          refine tkW (v := ?_) 10 rS10 rfl (by kernel_rfl) (by kernel_rfl) (by kernel_rfl) (fun _ _ _ h => h) (by rfl) ?_ (by assumption) ?_
          rotate_left
          · intro w hSw; (try dsimp only at hSw); go_simp; (try with_reducible rfl)
          (try simp only [Act.put, rS10, List.setIfInBounds_toArray, List.set_cons_zero, List.set_cons_succ])
          refine tkW (v := ?_) 11 rS11 rfl (by kernel_rfl) (by kernel_rfl) (by kernel_rfl) (fun _ _ _ h => h) (by rfl) ?_ (by assumption) ?_
          rotate_left
          · intro w hSw; (try dsimp only at hSw); go_simp; (try with_reducible rfl)
          (try simp only [Act.put, rS11, List.setIfInBounds_toArray, List.set_cons_zero, List.set_cons_succ])
          refine tkW (v := ?_) 12 rS12 rfl (by kernel_rfl) (by kernel_rfl) (by kernel_rfl) (fun _ _ _ h => h) (by rfl) ?_ (by assumption) ?_
          rotate_left
          · intro w hSw; (try dsimp only at hSw); go_simp; (try with_reducible rfl)
          (try simp only [Act.put, rS12, List.setIfInBounds_toArray, List.set_cons_zero, List.set_cons_succ])
          refine tkE 13 rS13 rfl (by kernel_rfl) (fun K hK => ?_)
          go_simp
          (refine (CN.out _).mono ?_; rintro e w' ⟨rfl, rfl⟩)
          (try go_wp2_with fail)
          refine hK.out _ _ ?_ (fun hHeld1 => ?_)
          · (try dsimp only); exact KS.out _ (by first | assumption | exact Kp.drew _)
          clear hK K hHeld0
          (try simp only [Act.put, rS13, List.setIfInBounds_toArray, List.set_cons_zero, List.set_cons_succ])
          refine tkW (v := ?_) 14 rS14 rfl (by kernel_rfl) (by kernel_rfl) (by kernel_rfl) (fun _ _ _ h => h) (by rfl) ?_ (by assumption) ?_
          rotate_left
          · intro w hSw; (try dsimp only at hSw); go_simp; (try with_reducible rfl)
          (try simp only [Act.put, rS14, List.setIfInBounds_toArray, List.set_cons_zero, List.set_cons_succ])
          refine tkE 15 rS15 rfl (by kernel_rfl) (fun K hK => ?_)
          go_simp
          (refine (CA.out _ (K0.out.trans (by first | assumption | exact Kp.drew _))).mono ?_; rintro e w' ⟨rfl, k1⟩; have k2 := Kp.trans (show Kp W0 _ from (by first | assumption | exact Kp.drew _)) k1; clear k1)
          (try go_wp2_with fail)
          refine hK.out _ _ ?_ (fun hHeld2 => ?_)
          · (try dsimp only); exact KS.out _ (by first | assumption | exact Kp.drew _)
          clear hK K hHeld1
          (try simp only [Act.put, rS15, List.setIfInBounds_toArray, List.set_cons_zero, List.set_cons_succ])
          refine tkW (v := ?_) 16 rS16 rfl (by kernel_rfl) (by kernel_rfl) (by kernel_rfl) (fun _ _ _ h => h) (by rfl) ?_ (by assumption) ?_
          rotate_left
          · intro w hSw; (try dsimp only at hSw); go_simp; (try with_reducible rfl)
          (try simp only [Act.put, rS16, List.setIfInBounds_toArray, List.set_cons_zero, List.set_cons_succ])
          refine tkW (v := ?_) 17 rS17 rfl (by kernel_rfl) (by kernel_rfl) (by kernel_rfl) (fun _ _ _ h => h) (by rfl) ?_ (by assumption) ?_
          rotate_left
          · intro w hSw; (try dsimp only at hSw); go_simp; (try with_reducible rfl)
          (try simp only [Act.put, rS17, List.setIfInBounds_toArray, List.set_cons_zero, List.set_cons_succ])
          refine tkW (v := ?_) 18 rS18 rfl (by kernel_rfl) (by kernel_rfl) (by kernel_rfl) (fun _ _ _ h => h) (by rfl) ?_ (by assumption) ?_
          rotate_left
          · intro w hSw; (try dsimp only at hSw); go_simp; (try with_reducible rfl)
          (try simp only [Act.put, rS18, List.setIfInBounds_toArray, List.set_cons_zero, List.set_cons_succ])
          refine tkW (v := ?_) 19 rS19 rfl (by kernel_rfl) (by kernel_rfl) (by kernel_rfl) (fun _ _ _ h => h) (by rfl) ?_ (by assumption) ?_
          rotate_left
          · intro w hSw; (try dsimp only at hSw); go_simp; (try with_reducible rfl)
          (try simp only [Act.put, rS19, List.setIfInBounds_toArray, List.set_cons_zero, List.set_cons_succ])
          refine tkW (v := ?_) 20 rS20 rfl (by kernel_rfl) (by kernel_rfl) (by kernel_rfl) (fun _ _ _ h => h) (by rfl) ?_ (by assumption) ?_
          rotate_left
          · intro w hSw; (try dsimp only at hSw); go_simp; (try with_reducible rfl)
          (try simp only [Act.put, rS20, List.setIfInBounds_toArray, List.set_cons_zero, List.set_cons_succ])
          refine tkW (v := ?_) 21 rS21 rfl (by kernel_rfl) (by kernel_rfl) (by kernel_rfl) (fun _ _ _ h => h) (by rfl) ?_ (by assumption) ?_
          rotate_left
          · intro w hSw; (try dsimp only at hSw); go_simp; (try with_reducible rfl)
          (try simp only [Act.put, rS21, List.setIfInBounds_toArray, List.set_cons_zero, List.set_cons_succ])
          refine tkW (v := ?_) 22 rS22 rfl (by kernel_rfl) (by kernel_rfl) (by kernel_rfl) (fun _ _ _ h => h) (by rfl) ?_ (by assumption) ?_
          rotate_left
          · intro w hSw; (try dsimp only at hSw); go_simp; (try with_reducible rfl)
          (try simp only [Act.put, rS22, List.setIfInBounds_toArray, List.set_cons_zero, List.set_cons_succ])
          refine tkW (v := ?_) 23 rS23 rfl (by kernel_rfl) (by kernel_rfl) (by kernel_rfl) (fun _ _ _ h => h) (by rfl) ?_ (by assumption) ?_
          rotate_left
          · intro w hSw; (try dsimp only at hSw); go_simp; (try with_reducible rfl)
          (try simp only [Act.put, rS23, List.setIfInBounds_toArray, List.set_cons_zero, List.set_cons_succ])
          refine wpAnyH_done (by kernel_rfl) ?_ _
          go_wp2
          go_ret
          exact ⟨by first | rfl | simp [*], K0.out.trans (by first | assumption | exact Kp.drew _)⟩
        | false =>
          have KS := Lib.hid (fun w' (kq : Kp W0 w') => show w'.cell? ⟨w.heap.size, 0, none⟩ = some (.bool false) ∧ w'.cell? ⟨w.heap.size, 1, none⟩ = some (.int .i64 u) ∧ w'.cell? ⟨w.heap.size, 2, none⟩ = some (.slice ad a.length ca) ∧ w'.cell? ⟨w.heap.size, 3, none⟩ = some (.slice bd b.length cb) ∧ Kp W0 w' from ⟨(HB.out w' kq).1, (HB.out w' kq).2.1, (HB.out w' kq).2.2.1, (HB.out w' kq).2.2.2, kq⟩)
          go_enter Tryz.func105, Tryz.ntmps105
          obtain ⟨c0, c1, c2, c3⟩ := HB.out W0 (Kp.refl _)
          go_wp2_with fail
          rw [← HW.out]
          refine wp_region_held_drew (S := fun w' => w'.cell? ⟨w.heap.size, 0, none⟩ = some (.bool false) ∧ w'.cell? ⟨w.heap.size, 1, none⟩ = some (.int .i64 u) ∧ w'.cell? ⟨w.heap.size, 2, none⟩ = some (.slice ad a.length ca) ∧ w'.cell? ⟨w.heap.size, 3, none⟩ = some (.slice bd b.length cb) ∧ Kp W0 w') (by kernel_rfl) ?_ (fun hHeld0 => ?_)
          · (try dsimp only); exact KS.out _ (by first | assumption | exact Kp.drew _)
          refine tkW (v := ?_) 0 rS0 rfl (by kernel_rfl) (by kernel_rfl) (by kernel_rfl) (fun _ _ _ h => h) (by rfl) ?_ (by assumption) ?_
          rotate_left
          · intro w hSw; (try dsimp only at hSw); go_simp; (try with_reducible rfl)
          (try simp only [Act.put, rS0, List.setIfInBounds_toArray, List.set_cons_zero, List.set_cons_succ])
          refine tkW (v := ?_) 1 rS1 rfl (by kernel_rfl) (by kernel_rfl) (by kernel_rfl) (fun _ _ _ h => h) (by rfl) ?_ (by assumption) ?_
          rotate_left
          · intro w hSw; (try dsimp only at hSw); go_simp; (try with_reducible rfl)
          (try simp only [Act.put, rS1, List.setIfInBounds_toArray, List.set_cons_zero, List.set_cons_succ])
          refine tkW (v := ?_) 2 rS2 rfl (by kernel_rfl) (by kernel_rfl) (by kernel_rfl) (fun _ _ _ h => h) (by rfl) ?_ (by assumption) ?_
          rotate_left
          · intro w hSw; (try dsimp only at hSw); go_simp; (try with_reducible rfl)
          (try simp only [Act.put, rS2, List.setIfInBounds_toArray, List.set_cons_zero, List.set_cons_succ])
          refine tkW (v := ?_) 3 rS3 rfl (by kernel_rfl) (by kernel_rfl) (by kernel_rfl) (fun _ _ _ h => h) (by rfl) ?_ (by assumption) ?_
          rotate_left
          · intro w hSw; (try dsimp only at hSw); go_simp; (try with_reducible rfl)
          (try simp only [Act.put, rS3, List.setIfInBounds_toArray, List.set_cons_zero, List.set_cons_succ])
          refine tkW (v := ?_) 4 rS4 rfl (by kernel_rfl) (by kernel_rfl) (by kernel_rfl) (fun _ _ _ h => h) (by rfl) ?_ (by assumption) ?_
          rotate_left
          · intro w hSw; (try dsimp only at hSw); go_simp; (try with_reducible rfl)
          (try simp only [Act.put, rS4, List.setIfInBounds_toArray, List.set_cons_zero, List.set_cons_succ])
          refine tkW (v := ?_) 5 rS5 rfl (by kernel_rfl) (by kernel_rfl) (by kernel_rfl) (fun _ _ _ h => h) (by rfl) ?_ (by assumption) ?_
          rotate_left
          · intro w hSw; (try dsimp only at hSw); go_simp; (try with_reducible rfl)
          (try simp only [Act.put, rS5, List.setIfInBounds_toArray, List.set_cons_zero, List.set_cons_succ])
          refine tkW (v := ?_) 6 rS6 rfl (by kernel_rfl) (by kernel_rfl) (by kernel_rfl) (fun _ _ _ h => h) (by rfl) ?_ (by assumption) ?_
          rotate_left
          · intro w hSw; (try dsimp only at hSw); go_simp; (try with_reducible rfl)
          (try simp only [Act.put, rS6, List.setIfInBounds_toArray, List.set_cons_zero, List.set_cons_succ])
          refine tkW (v := ?_) 7 rS7 rfl (by kernel_rfl) (by kernel_rfl) (by kernel_rfl) (fun _ _ _ h => h) (by rfl) ?_ (by assumption) ?_
          rotate_left
          · intro w hSw; (try dsimp only at hSw); go_simp; (try with_reducible rfl)
          (try simp only [Act.put, rS7, List.setIfInBounds_toArray, List.set_cons_zero, List.set_cons_succ])
          refine tkW (v := ?_) 8 rS8 rfl (by kernel_rfl) (by kernel_rfl) (by kernel_rfl) (fun _ _ _ h => h) (by rfl) ?_ (by assumption) ?_
          rotate_left
          · intro w hSw; (try dsimp only at hSw); go_simp; (try with_reducible rfl)
          (try simp only [Act.put, rS8, List.setIfInBounds_toArray, List.set_cons_zero, List.set_cons_succ])
          refine tkW (v := ?_) 9 rS9 rfl (by kernel_rfl) (by kernel_rfl) (by kernel_rfl) (fun _ _ _ h => h) (by rfl) ?_ (by assumption) ?_
          rotate_left
          · intro w hSw; (try dsimp only at hSw); go_simp; (try with_reducible rfl)
          (try simp only [Act.put, rS9, List.setIfInBounds_toArray, List.set_cons_zero, List.set_cons_succ])
          refine tkW (v := ?_) 10 rS10 rfl (by kernel_rfl) (by kernel_rfl) (by kernel_rfl) (fun _ _ _ h => h) (by rfl) ?_ (by assumption) ?_
          rotate_left
          · intro w hSw; (try dsimp only at hSw); go_simp; (try with_reducible rfl)
          (try simp only [Act.put, rS10, List.setIfInBounds_toArray, List.set_cons_zero, List.set_cons_succ])
          refine tkW (v := ?_) 11 rS11 rfl (by kernel_rfl) (by kernel_rfl) (by kernel_rfl) (fun _ _ _ h => h) (by rfl) ?_ (by assumption) ?_
          rotate_left
          · intro w hSw; (try dsimp only at hSw); go_simp; (try with_reducible rfl)
          (try simp only [Act.put, rS11, List.setIfInBounds_toArray, List.set_cons_zero, List.set_cons_succ])
          refine tkW (v := ?_) 12 rS12 rfl (by kernel_rfl) (by kernel_rfl) (by kernel_rfl) (fun _ _ _ h => h) (by rfl) ?_ (by assumption) ?_
          rotate_left
          · intro w hSw; (try dsimp only at hSw); go_simp; (try with_reducible rfl)
          (try simp only [Act.put, rS12, List.setIfInBounds_toArray, List.set_cons_zero, List.set_cons_succ])
          refine tkE 13 rS13 rfl (by kernel_rfl) (fun K hK => ?_)
          go_simp
          (refine (CN.out _).mono ?_; rintro e w' ⟨rfl, rfl⟩)
          (try go_wp2_with fail)
          refine hK.out _ _ ?_ (fun hHeld1 => ?_)
          · (try dsimp only); exact KS.out _ (by first | assumption | exact Kp.drew _)
          clear hK K hHeld0
          (try simp only [Act.put, rS13, List.setIfInBounds_toArray, List.set_cons_zero, List.set_cons_succ])
          refine tkW (v := ?_) 14 rS14 rfl (by kernel_rfl) (by kernel_rfl) (by kernel_rfl) (fun _ _ _ h => h) (by rfl) ?_ (by assumption) ?_
          rotate_left
          · intro w hSw; (try dsimp only at hSw); go_simp; (try with_reducible rfl)
          (try simp only [Act.put, rS14, List.setIfInBounds_toArray, List.set_cons_zero, List.set_cons_succ])
          refine tkE 15 rS15 rfl (by kernel_rfl) (fun K hK => ?_)
          go_simp
          (refine (CA.out _ (K0.out.trans (by first | assumption | exact Kp.drew _))).mono ?_; rintro e w' ⟨rfl, k1⟩; have k2 := Kp.trans (show Kp W0 _ from (by first | assumption | exact Kp.drew _)) k1; clear k1)
          (try go_wp2_with fail)
          refine hK.out _ _ ?_ (fun hHeld2 => ?_)
          · (try dsimp only); exact KS.out _ (by first | assumption | exact Kp.drew _)
          clear hK K hHeld1
          (try simp only [Act.put, rS15, List.setIfInBounds_toArray, List.set_cons_zero, List.set_cons_succ])
          refine tkW (v := ?_) 16 rS16 rfl (by kernel_rfl) (by kernel_rfl) (by kernel_rfl) (fun _ _ _ h => h) (by rfl) ?_ (by assumption) ?_
          rotate_left
          · intro w hSw; (try dsimp only at hSw); go_simp; (try with_reducible rfl)
          (try simp only [Act.put, rS16, List.setIfInBounds_toArray, List.set_cons_zero, List.set_cons_succ])
          refine tkW (v := ?_) 17 rS17 rfl (by kernel_rfl) (by kernel_rfl) (by kernel_rfl) (fun _ _ _ h => h) (by rfl) ?_ (by assumption) ?_
          rotate_left
          · intro w hSw; (try dsimp only at hSw); go_simp; (try with_reducible rfl)
          (try simp only [Act.put, rS17, List.setIfInBounds_toArray, List.set_cons_zero, List.set_cons_succ])
          refine tkU 18 rS18 rfl (by kernel_rfl) (by kernel_rfl) (by kernel_rfl) (fun _ _ _ h => h) (by rfl) (by assumption) ?_
          (try simp only [Act.put, rS18, List.setIfInBounds_toArray, List.set_cons_zero, List.set_cons_succ])
          refine tkU 19 rS19 rfl (by kernel_rfl) (by kernel_rfl) (by kernel_rfl) (fun _ _ _ h => h) (by rfl) (by assumption) ?_
          (try simp only [Act.put, rS19, List.setIfInBounds_toArray, List.set_cons_zero, List.set_cons_succ])
          refine tkU 20 rS20 rfl (by kernel_rfl) (by kernel_rfl) (by kernel_rfl) (fun _ _ _ h => h) (by rfl) (by assumption) ?_
          (try simp only [Act.put, rS20, List.setIfInBounds_toArray, List.set_cons_zero, List.set_cons_succ])
          refine tkU 21 rS21 rfl (by kernel_rfl) (by kernel_rfl) (by kernel_rfl) (fun _ _ _ h => h) (by rfl) (by assumption) ?_
          (try simp only [Act.put, rS21, List.setIfInBounds_toArray, List.set_cons_zero, List.set_cons_succ])
          refine tkW (v := ?_) 22 rS22 rfl (by kernel_rfl) (by kernel_rfl) (by kernel_rfl) (fun _ _ _ h => h) (by rfl) ?_ (by assumption) ?_
          rotate_left
          · intro w hSw; (try dsimp only at hSw); go_simp; (try with_reducible rfl)
          (try simp only [Act.put, rS22, List.setIfInBounds_toArray, List.set_cons_zero, List.set_cons_succ])
          refine tkW (v := ?_) 23 rS23 rfl (by kernel_rfl) (by kernel_rfl) (by kernel_rfl) (fun _ _ _ h => h) (by rfl) ?_ (by assumption) ?_
          rotate_left
          · intro w hSw; (try dsimp only at hSw); go_simp; (try with_reducible rfl)
          (try simp only [Act.put, rS23, List.setIfInBounds_toArray, List.set_cons_zero, List.set_cons_succ])
          refine wpAnyH_done (by kernel_rfl) ?_ _
          go_wp2
          go_ret
          exact ⟨by first | rfl | simp [*], K0.out.trans (by first | assumption | exact Kp.drew _)⟩
      · have hm : decide (0 < cnt u) = false := decide_eq_false (by have := cnt_no (k := u) (.inr (by omega)); omega)
        rw [hm]
        have q0 : decide (0 ≤ u) = true := decide_eq_true u0
        have q5 : decide (u ≤ 5) = false := decide_eq_false u5
        generalize cnt u = m at *
        clear u0 u5 hm
        have KS := Lib.hid (fun w' (kq : Kp W0 w') => show w'.cell? ⟨w.heap.size, 0, none⟩ = some (.bool false) ∧ w'.cell? ⟨w.heap.size, 1, none⟩ = some (.int .i64 u) ∧ w'.cell? ⟨w.heap.size, 2, none⟩ = some (.slice ad a.length ca) ∧ w'.cell? ⟨w.heap.size, 3, none⟩ = some (.slice bd b.length cb) ∧ Kp W0 w' from ⟨(HB.out w' kq).1, (HB.out w' kq).2.1, (HB.out w' kq).2.2.1, (HB.out w' kq).2.2.2, kq⟩)
        go_enter Tryz.func105, Tryz.ntmps105
        obtain ⟨c0, c1, c2, c3⟩ := HB.out W0 (Kp.refl _)
        go_wp2_with fail
        rw [← HW.out]
        refine wp_region_held_drew (S := fun w' => w'.cell? ⟨w.heap.size, 0, none⟩ = some (.bool false) ∧ w'.cell? ⟨w.heap.size, 1, none⟩ = some (.int .i64 u) ∧ w'.cell? ⟨w.heap.size, 2, none⟩ = some (.slice ad a.length ca) ∧ w'.cell? ⟨w.heap.size, 3, none⟩ = some (.slice bd b.length cb) ∧ Kp W0 w') (by kernel_rfl) ?_ (fun hHeld0 => ?_)
        · (try dsimp only); exact KS.out _ (by first | assumption | exact Kp.drew _)
        refine tkW (v := ?_) 0 rS0 rfl (by kernel_rfl) (by kernel_rfl) (by kernel_rfl) (fun _ _ _ h => h) (by rfl) ?_ (by assumption) ?_
        rotate_left
        · intro w hSw; (try dsimp only at hSw); go_simp; (try with_reducible rfl)
        (try simp only [Act.put, rS0, List.setIfInBounds_toArray, List.set_cons_zero, List.set_cons_succ])
        refine tkW (v := ?_) 1 rS1 rfl (by kernel_rfl) (by kernel_rfl) (by kernel_rfl) (fun _ _ _ h => h) (by rfl) ?_ (by assumption) ?_
        rotate_left
        · intro w hSw; (try dsimp only at hSw); go_simp; (try with_reducible rfl)
        (try simp only [Act.put, rS1, List.setIfInBounds_toArray, List.set_cons_zero, List.set_cons_succ])
        refine tkW (v := ?_) 2 rS2 rfl (by kernel_rfl) (by kernel_rfl) (by kernel_rfl) (fun _ _ _ h => h) (by rfl) ?_ (by assumption) ?_
        rotate_left
        · intro w hSw; (try dsimp only at hSw); go_simp; (try with_reducible rfl)
        (try simp only [Act.put, rS2, List.setIfInBounds_toArray, List.set_cons_zero, List.set_cons_succ])
        refine tkW (v := ?_) 3 rS3 rfl (by kernel_rfl) (by kernel_rfl) (by kernel_rfl) (fun _ _ _ h => h) (by rfl) ?_ (by assumption) ?_
        rotate_left
        · intro w hSw; (try dsimp only at hSw); go_simp; (try with_reducible rfl)
        (try simp only [Act.put, rS3, List.setIfInBounds_toArray, List.set_cons_zero, List.set_cons_succ])
        refine tkW (v := ?_) 4 rS4 rfl (by kernel_rfl) (by kernel_rfl) (by kernel_rfl) (fun _ _ _ h => h) (by rfl) ?_ (by assumption) ?_
        rotate_left
        · intro w hSw; (try dsimp only at hSw); go_simp; (try with_reducible rfl)
        (try simp only [Act.put, rS4, List.setIfInBounds_toArray, List.set_cons_zero, List.set_cons_succ])
        refine tkW (v := ?_) 5 rS5 rfl (by kernel_rfl) (by kernel_rfl) (by kernel_rfl) (fun _ _ _ h => h) (by rfl) ?_ (by assumption) ?_
        rotate_left
        · intro w hSw; (try dsimp only at hSw); go_simp; (try with_reducible rfl)
        (try simp only [Act.put, rS5, List.setIfInBounds_toArray, List.set_cons_zero, List.set_cons_succ])
        refine tkW (v := ?_) 6 rS6 rfl (by kernel_rfl) (by kernel_rfl) (by kernel_rfl) (fun _ _ _ h => h) (by rfl) ?_ (by assumption) ?_
        rotate_left
        · intro w hSw; (try dsimp only at hSw); go_simp; (try with_reducible rfl)
        (try simp only [Act.put, rS6, List.setIfInBounds_toArray, List.set_cons_zero, List.set_cons_succ])
        refine tkW (v := ?_) 7 rS7 rfl (by kernel_rfl) (by kernel_rfl) (by kernel_rfl) (fun _ _ _ h => h) (by rfl) ?_ (by assumption) ?_
        rotate_left
        · intro w hSw; (try dsimp only at hSw); go_simp; (try with_reducible rfl)
        (try simp only [Act.put, rS7, List.setIfInBounds_toArray, List.set_cons_zero, List.set_cons_succ])
        refine tkW (v := ?_) 8 rS8 rfl (by kernel_rfl) (by kernel_rfl) (by kernel_rfl) (fun _ _ _ h => h) (by rfl) ?_ (by assumption) ?_
        rotate_left
        · intro w hSw; (try dsimp only at hSw); go_simp; (try with_reducible rfl)
        (try simp only [Act.put, rS8, List.setIfInBounds_toArray, List.set_cons_zero, List.set_cons_succ])
        refine tkU 9 rS9 rfl (by kernel_rfl) (by kernel_rfl) (by kernel_rfl) (fun _ _ _ h => h) (by rfl) (by assumption) ?_
        (try simp only [Act.put, rS9, List.setIfInBounds_toArray, List.set_cons_zero, List.set_cons_succ])
        refine tkU 10 rS10 rfl (by kernel_rfl) (by kernel_rfl) (by kernel_rfl) (fun _ _ _ h => h) (by rfl) (by assumption) ?_
        (try simp only [Act.put, rS10, List.setIfInBounds_toArray, List.set_cons_zero, List.set_cons_succ])
        refine tkU 11 rS11 rfl (by kernel_rfl) (by kernel_rfl) (by kernel_rfl) (fun _ _ _ h => h) (by rfl) (by assumption) ?_
        (try simp only [Act.put, rS11, List.setIfInBounds_toArray, List.set_cons_zero, List.set_cons_succ])
        refine tkU 12 rS12 rfl (by kernel_rfl) (by kernel_rfl) (by kernel_rfl) (fun _ _ _ h => h) (by rfl) (by assumption) ?_
        (try simp only [Act.put, rS12, List.setIfInBounds_toArray, List.set_cons_zero, List.set_cons_succ])
        refine tkU 13 rS13 rfl (by kernel_rfl) (by kernel_rfl) (by kernel_rfl) (fun _ _ _ h => h) (by rfl) (by assumption) ?_
        (try simp only [Act.put, rS13, List.setIfInBounds_toArray, List.set_cons_zero, List.set_cons_succ])
        refine tkU 14 rS14 rfl (by kernel_rfl) (by kernel_rfl) (by kernel_rfl) (fun _ _ _ h => h) (by rfl) (by assumption) ?_
        (try simp only [Act.put, rS14, List.setIfInBounds_toArray, List.set_cons_zero, List.set_cons_succ])
        refine tkU 15 rS15 rfl (by kernel_rfl) (by kernel_rfl) (by kernel_rfl) (fun _ _ _ h => h) (by rfl) (by assumption) ?_
        (try simp only [Act.put, rS15, List.setIfInBounds_toArray, List.set_cons_zero, List.set_cons_succ])
        refine tkW (v := ?_) 16 rS16 rfl (by kernel_rfl) (by kernel_rfl) (by kernel_rfl) (fun _ _ _ h => h) (by rfl) ?_ (by assumption) ?_
        rotate_left
        · intro w hSw; (try dsimp only at hSw); go_simp; (try with_reducible rfl)
        (try simp only [Act.put, rS16, List.setIfInBounds_toArray, List.set_cons_zero, List.set_cons_succ])
        refine tkW (v := ?_) 17 rS17 rfl (by kernel_rfl) (by kernel_rfl) (by kernel_rfl) (fun _ _ _ h => h) (by rfl) ?_ (by assumption) ?_
        rotate_left
        · intro w hSw; (try dsimp only at hSw); go_simp; (try with_reducible rfl)
        (try simp only [Act.put, rS17, List.setIfInBounds_toArray, List.set_cons_zero, List.set_cons_succ])
        refine tkU 18 rS18 rfl (by kernel_rfl) (by kernel_rfl) (by kernel_rfl) (fun _ _ _ h => h) (by rfl) (by assumption) ?_
        (try simp only [Act.put, rS18, List.setIfInBounds_toArray, List.set_cons_zero, List.set_cons_succ])
        refine tkU 19 rS19 rfl (by kernel_rfl) (by kernel_rfl) (by kernel_rfl) (fun _ _ _ h => h) (by rfl) (by assumption) ?_
        (try simp only [Act.put, rS19, List.setIfInBounds_toArray, List.set_cons_zero, List.set_cons_succ])
        refine tkU 20 rS20 rfl (by kernel_rfl) (by kernel_rfl) (by kernel_rfl) (fun _ _ _ h => h) (by rfl) (by assumption) ?_
        (try simp only [Act.put, rS20, List.setIfInBounds_toArray, List.set_cons_zero, List.set_cons_succ])
        refine tkU 21 rS21 rfl (by kernel_rfl) (by kernel_rfl) (by kernel_rfl) (fun _ _ _ h => h) (by rfl) (by assumption) ?_
        (try simp only [Act.put, rS21, List.setIfInBounds_toArray, List.set_cons_zero, List.set_cons_succ])
        refine tkW (v := ?_) 22 rS22 rfl (by kernel_rfl) (by kernel_rfl) (by kernel_rfl) (fun _ _ _ h => h) (by rfl) ?_ (by assumption) ?_
        rotate_left
        · intro w hSw; (try dsimp only at hSw); go_simp; (try with_reducible rfl)
        (try simp only [Act.put, rS22, List.setIfInBounds_toArray, List.set_cons_zero, List.set_cons_succ])
        refine tkW (v := ?_) 23 rS23 rfl (by kernel_rfl) (by kernel_rfl) (by kernel_rfl) (fun _ _ _ h => h) (by rfl) ?_ (by assumption) ?_
        rotate_left
        · intro w hSw; (try dsimp only at hSw); go_simp; (try with_reducible rfl)
        (try simp only [Act.put, rS23, List.setIfInBounds_toArray, List.set_cons_zero, List.set_cons_succ])
        refine wpAnyH_done (by kernel_rfl) ?_ _
        go_wp2
        go_ret
        exact ⟨by first | rfl | simp [*], K0.out.trans (by first | assumption | exact Kp.drew _)⟩
    · have hm : decide (0 < cnt u) = false := decide_eq_false (by have := cnt_no (k := u) (.inl (by omega)); omega)
      rw [hm]
      have q0 : decide (0 ≤ u) = false := decide_eq_false u0
      generalize cnt u = m at *
      clear u0 hm
      have KS := Lib.hid (fun w' (kq : Kp W0 w') => show w'.cell? ⟨w.heap.size, 0, none⟩ = some (.bool false) ∧ w'.cell? ⟨w.heap.size, 1, none⟩ = some (.int .i64 u) ∧ w'.cell? ⟨w.heap.size, 2, none⟩ = some (.slice ad a.length ca) ∧ w'.cell? ⟨w.heap.size, 3, none⟩ = some (.slice bd b.length cb) ∧ Kp W0 w' from ⟨(HB.out w' kq).1, (HB.out w' kq).2.1, (HB.out w' kq).2.2.1, (HB.out w' kq).2.2.2, kq⟩)
      go_enter Tryz.func105, Tryz.ntmps105
      obtain ⟨c0, c1, c2, c3⟩ := HB.out W0 (Kp.refl _)
      go_wp2_with fail
      rw [← HW.out]
      refine wp_region_held_drew (S := fun w' => w'.cell? ⟨w.heap.size, 0, none⟩ = some (.bool false) ∧ w'.cell? ⟨w.heap.size, 1, none⟩ = some (.int .i64 u) ∧ w'.cell? ⟨w.heap.size, 2, none⟩ = some (.slice ad a.length ca) ∧ w'.cell? ⟨w.heap.size, 3, none⟩ = some (.slice bd b.length cb) ∧ Kp W0 w') (by kernel_rfl) ?_ (fun hHeld0 => ?_)
      · (try dsimp only); exact KS.out _ (by first | assumption | exact Kp.drew _)
      refine tkW (v := ?_) 0 rS0 rfl (by kernel_rfl) (by kernel_rfl) (by kernel_rfl) (fun _ _ _ h => h) (by rfl) ?_ (by assumption) ?_
      rotate_left
      · intro w hSw; (try dsimp only at hSw); go_simp; (try with_reducible rfl)
      (try simp only [Act.put, rS0, List.setIfInBounds_toArray, List.set_cons_zero, List.set_cons_succ])
      refine tkW (v := ?_) 1 rS1 rfl (by kernel_rfl) (by kernel_rfl) (by kernel_rfl) (fun _ _ _ h => h) (by rfl) ?_ (by assumption) ?_
      rotate_left
      · intro w hSw; (try dsimp only at hSw); go_simp; (try with_reducible rfl)
      (try simp only [Act.put, rS1, List.setIfInBounds_toArray, List.set_cons_zero, List.set_cons_succ])
      refine tkW (v := ?_) 2 rS2 rfl (by kernel_rfl) (by kernel_rfl) (by kernel_rfl) (fun _ _ _ h => h) (by rfl) ?_ (by assumption) ?_
      rotate_left
      · intro w hSw; (try dsimp only at hSw); go_simp; (try with_reducible rfl)
      (try simp only [Act.put, rS2, List.setIfInBounds_toArray, List.set_cons_zero, List.set_cons_succ])
      refine tkW (v := ?_) 3 rS3 rfl (by kernel_rfl) (by kernel_rfl) (by kernel_rfl) (fun _ _ _ h => h) (by rfl) ?_ (by assumption) ?_
      rotate_left
      · intro w hSw; (try dsimp only at hSw); go_simp; (try with_reducible rfl)
      (try simp only [Act.put, rS3, List.setIfInBounds_toArray, List.set_cons_zero, List.set_cons_succ])
      refine tkU 4 rS4 rfl (by kernel_rfl) (by kernel_rfl) (by kernel_rfl) (fun _ _ _ h => h) (by rfl) (by assumption) ?_
      (try simp only [Act.put, rS4, List.setIfInBounds_toArray, List.set_cons_zero, List.set_cons_succ])
      refine tkU 5 rS5 rfl (by kernel_rfl) (by kernel_rfl) (by kernel_rfl) (fun _ _ _ h => h) (by rfl) (by assumption) ?_
      (try simp only [Act.put, rS5, List.setIfInBounds_toArray, List.set_cons_zero, List.set_cons_succ])
      refine tkU 6 rS6 rfl (by kernel_rfl) (by kernel_rfl) (by kernel_rfl) (fun _ _ _ h => h) (by rfl) (by assumption) ?_
      (try simp only [Act.put, rS6, List.setIfInBounds_toArray, List.set_cons_zero, List.set_cons_succ])
      refine tkW (v := ?_) 7 rS7 rfl (by kernel_rfl) (by kernel_rfl) (by kernel_rfl) (fun _ _ _ h => h) (by rfl) ?_ (by assumption) ?_
      rotate_left
      · intro w hSw; (try dsimp only at hSw); go_simp; (try with_reducible rfl)
      (try simp only [Act.put, rS7, List.setIfInBounds_toArray, List.set_cons_zero, List.set_cons_succ])
      refine tkW (v := ?_) 8 rS8 rfl (by kernel_rfl) (by kernel_rfl) (by kernel_rfl) (fun _ _ _ h => h) (by rfl) ?_ (by assumption) ?_
      rotate_left
      · intro w hSw; (try dsimp only at hSw); go_simp; (try with_reducible rfl)
      (try simp only [Act.put, rS8, List.setIfInBounds_toArray, List.set_cons_zero, List.set_cons_succ])
      refine tkU 9 rS9 rfl (by kernel_rfl) (by kernel_rfl) (by kernel_rfl) (fun _ _ _ h => h) (by rfl) (by assumption) ?_
      (try simp only [Act.put, rS9, List.setIfInBounds_toArray, List.set_cons_zero, List.set_cons_succ])
      refine tkU 10 rS10 rfl (by kernel_rfl) (by kernel_rfl) (by kernel_rfl) (fun _ _ _ h => h) (by rfl) (by assumption) ?_
      (try simp only [Act.put, rS10, List.setIfInBounds_toArray, List.set_cons_zero, List.set_cons_succ])
      refine tkU 11 rS11 rfl (by kernel_rfl) (by kernel_rfl) (by kernel_rfl) (fun _ _ _ h => h) (by rfl) (by assumption) ?_
      (try simp only [Act.put, rS11, List.setIfInBounds_toArray, List.set_cons_zero, List.set_cons_succ])
      refine tkU 12 rS12 rfl (by kernel_rfl) (by kernel_rfl) (by kernel_rfl) (fun _ _ _ h => h) (by rfl) (by assumption) ?_
      (try simp only [Act.put, rS12, List.setIfInBounds_toArray, List.set_cons_zero, List.set_cons_succ])
      refine tkU 13 rS13 rfl (by kernel_rfl) (by kernel_rfl) (by kernel_rfl) (fun _ _ _ h => h) (by rfl) (by assumption) ?_
      (try simp only [Act.put, rS13, List.setIfInBounds_toArray, List.set_cons_zero, List.set_cons_succ])
      refine tkU 14 rS14 rfl (by kernel_rfl) (by kernel_rfl) (by kernel_rfl) (fun _ _ _ h => h) (by rfl) (by assumption) ?_
      (try simp only [Act.put, rS14, List.setIfInBounds_toArray, List.set_cons_zero, List.set_cons_succ])
      refine tkU 15 rS15 rfl (by kernel_rfl) (by kernel_rfl) (by kernel_rfl) (fun _ _ _ h => h) (by rfl) (by assumption) ?_
      (try simp only [Act.put, rS15, List.setIfInBounds_toArray, List.set_cons_zero, List.set_cons_succ])
      refine tkW (v := ?_) 16 rS16 rfl (by kernel_rfl) (by kernel_rfl) (by kernel_rfl) (fun _ _ _ h => h) (by rfl) ?_ (by assumption) ?_
      rotate_left
      · intro w hSw; (try dsimp only at hSw); go_simp; (try with_reducible rfl)
      (try simp only [Act.put, rS16, List.setIfInBounds_toArray, List.set_cons_zero, List.set_cons_succ])
      refine tkW (v := ?_) 17 rS17 rfl (by kernel_rfl) (by kernel_rfl) (by kernel_rfl) (fun _ _ _ h => h) (by rfl) ?_ (by assumption) ?_
      rotate_left
      · intro w hSw; (try dsimp only at hSw); go_simp; (try with_reducible rfl)
      (try simp only [Act.put, rS17, List.setIfInBounds_toArray, List.set_cons_zero, List.set_cons_succ])
      refine tkU 18 rS18 rfl (by kernel_rfl) (by kernel_rfl) (by kernel_rfl) (fun _ _ _ h => h) (by rfl) (by assumption) ?_
      (try simp only [Act.put, rS18, List.setIfInBounds_toArray, List.set_cons_zero, List.set_cons_succ])
      refine tkU 19 rS19 rfl (by kernel_rfl) (by kernel_rfl) (by kernel_rfl) (fun _ _ _ h => h) (by rfl) (by assumption) ?_
      (try simp only [Act.put, rS19, List.setIfInBounds_toArray, List.set_cons_zero, List.set_cons_succ])
      refine tkU 20 rS20 rfl (by kernel_rfl) (by kernel_rfl) (by kernel_rfl) (fun _ _ _ h => h) (by rfl) (by assumption) ?_
      (try simp only [Act.put, rS20, List.setIfInBounds_toArray, List.set_cons_zero, List.set_cons_succ])
      refine tkU 21 rS21 rfl (by kernel_rfl) (by kernel_rfl) (by kernel_rfl) (fun _ _ _ h => h) (by rfl) (by assumption) ?_
      (try simp only [Act.put, rS21, List.setIfInBounds_toArray, List.set_cons_zero, List.set_cons_succ])
      refine tkW (v := ?_) 22 rS22 rfl (by kernel_rfl) (by kernel_rfl) (by kernel_rfl) (fun _ _ _ h => h) (by rfl) ?_ (by assumption) ?_
      rotate_left
      · intro w hSw; (try dsimp only at hSw); go_simp; (try with_reducible rfl)
      (try simp only [Act.put, rS22, List.setIfInBounds_toArray, List.set_cons_zero, List.set_cons_succ])
      refine tkW (v := ?_) 23 rS23 rfl (by kernel_rfl) (by kernel_rfl) (by kernel_rfl) (fun _ _ _ h => h) (by rfl) ?_ (by assumption) ?_
      rotate_left
      · intro w hSw; (try dsimp only at hSw); go_simp; (try with_reducible rfl)
      (try simp only [Act.put, rS23, List.setIfInBounds_toArray, List.set_cons_zero, List.set_cons_succ])
      refine wpAnyH_done (by kernel_rfl) ?_ _
      go_wp2
      go_ret
      exact ⟨by first | rfl | simp [*], K0.out.trans (by first | assumption | exact Kp.drew _)⟩
end Go.Proofs.YtjjpnglilalnmaaGreatDoor

namespace Go.Proofs.YtjjpnglilalnmaaGreatDoor
open Go.RowKit
set_option linter.unusedVariables false
set_option linter.unusedSimpArgs false
def asL (f : LF) : LF := if leafB f = true then f else lf0
set_option maxHeartbeats 16000000 in
set_option maxRecDepth 100000 in
theorem refAs_any (f : LF) (va vb : Value) (w : World) (h : LeafOk w f va vb) :
    Calls Tryz.prog 96 #[leafV f va vb] w fun e w' => ∃ va' vb', e = .returned (leafV (asL f) va' vb') ∧ LeafOk w' (asL f) va' vb' ∧ Kp w w' := by
  have C := Lib.hid (fun w1 (kk : Kp w w1) => refSane_any f va vb w1 (h.a.kp kk) (h.b.kp kk) h.ia h.ib (Nat.le_trans h.na (by decide)) (Nat.le_trans h.nb (by decide)))
  have HO := Lib.hid h
  rw [show asL f = if leafB f = true then f else lf0 from rfl]
  generalize leafB f = q at *
  obtain ⟨sp, u, a, b⟩ := f
  obtain ⟨ad, ca, rfl⟩ := h.a.slice
  obtain ⟨bd, cb, rfl⟩ := h.b.slice
  unfold leafV at C
  rw [show leafV ⟨sp, u, a, b⟩ (.slice ad a.length ca) (.slice bd b.length cb) = .agg #[.bool sp, .int .i64 u, .slice ad a.length ca, .slice bd b.length cb] from rfl]
  simp only at C HO ⊢
  have K0 := Lib.hid ((Kp.alloc w (.cells #[.bool sp, .int .i64 u, .slice ad a.length ca, .slice bd b.length cb] 51)).trans (Kp.alloc _ (.cells #[.bool false, .int .i64 0, .slice none 0 0, .slice none 0 0] 51)))
  clear h
  cases q with
  | false =>
    rw [if_neg (by decide)]
    go_enter Tryz.func96, Tryz.ntmps96
    go_wp2_with fail
    refine (C.out _ K0.out).mono ?_
    rintro e w1 ⟨rfl, kk⟩
    have hB := (kk.block (w.heap.size + 1) (by simp)).trans (heap_at (w.alloc _) (.cells #[.bool false, .int .i64 0, .slice none 0 0, .slice none 0 0] 51 (0, 0)) (w.heap.size + 1) (by simp))
    have s1 := kk.size
    simp at s1
    have z2 : ¬ w.heap.size + 1 = w1.heap.size := by omega
    have z3 : w.heap.size + 1 < w1.heap.size := by omega
    have z4 : ¬ w.heap.size = w1.heap.size := by omega
    have z5 : w.heap.size < w1.heap.size := by omega
    have r0 : w1.cell? ⟨w.heap.size + 1, 0, none⟩ = some (.bool false) := by simp [World.cell?, hB]
    have r1 : w1.cell? ⟨w.heap.size + 1, 1, none⟩ = some (.int .i64 0) := by simp [World.cell?, hB]
    have r2 : w1.cell? ⟨w.heap.size + 1, 2, none⟩ = some (.slice none 0 0) := by simp [World.cell?, hB]
    have r3 : w1.cell? ⟨w.heap.size + 1, 3, none⟩ = some (.slice none 0 0) := by simp [World.cell?, hB]
    have f0 : w1.frozen? ⟨w.heap.size + 1, 0, none⟩ = false := by simp [World.frozen?, hB]
    have f1 : w1.frozen? ⟨w.heap.size + 1, 1, none⟩ = false := by simp [World.frozen?, hB]
    have f2 : w1.frozen? ⟨w.heap.size + 1, 2, none⟩ = false := by simp [World.frozen?, hB]
    have f3 : w1.frozen? ⟨w.heap.size + 1, 3, none⟩ = false := by simp [World.frozen?, hB]
    have K1 := Lib.hid (K0.out.trans kk)
    clear kk C
    go_wp2
    have RD1 := fun o => set4_read hB (.bool false) (.int .i64 0) (.slice none 0 0) (.slice none 0 0) (Kp.alloc _ o)
    have RD2 := fun o o' => set4_read hB (.bool false) (.int .i64 0) (.slice none 0 0) (.slice none 0 0) ((Kp.alloc _ o).trans (Kp.alloc _ o'))
    have RD0 := set4_read hB (.bool false) (.int .i64 0) (.slice none 0 0) (.slice none 0 0) (Kp.refl _)
    exact bodyPost_ret (v := .agg #[.bool false, .int .i64 0, .slice none 0 0, .slice none 0 0]) (by simp [results, Tryz.f96, go_sem, RD0, RD1, RD2]) rfl ⟨.slice none 0 0, .slice none 0 0, rfl, lf0_ok _, (set4_below K1.out (w.heap.size + 1) (by omega) _ _ _ _).trans (by first | with_reducible exact Kp.refl _ | with_reducible exact Kp.alloc _ _ | with_reducible exact (Kp.alloc _ _).trans (Kp.alloc _ _) | with_reducible exact ((Kp.alloc _ _).trans (Kp.alloc _ _)).trans (Kp.alloc _ _) | with_reducible exact Kp.drew _ | with_reducible exact Kp.drewN _ _)⟩
  | true =>
    rw [if_pos rfl]
    go_enter Tryz.func96, Tryz.ntmps96
    go_wp2_with fail
    refine (C.out _ K0.out).mono ?_
    rintro e w1 ⟨rfl, kk⟩
    have hB := (kk.block (w.heap.size + 1) (by simp)).trans (heap_at (w.alloc _) (.cells #[.bool false, .int .i64 0, .slice none 0 0, .slice none 0 0] 51 (0, 0)) (w.heap.size + 1) (by simp))
    have s1 := kk.size
    simp at s1
    have z2 : ¬ w.heap.size + 1 = w1.heap.size := by omega
    have z3 : w.heap.size + 1 < w1.heap.size := by omega
    have z4 : ¬ w.heap.size = w1.heap.size := by omega
    have z5 : w.heap.size < w1.heap.size := by omega
    have r0 : w1.cell? ⟨w.heap.size + 1, 0, none⟩ = some (.bool false) := by simp [World.cell?, hB]
    have r1 : w1.cell? ⟨w.heap.size + 1, 1, none⟩ = some (.int .i64 0) := by simp [World.cell?, hB]
    have r2 : w1.cell? ⟨w.heap.size + 1, 2, none⟩ = some (.slice none 0 0) := by simp [World.cell?, hB]
    have r3 : w1.cell? ⟨w.heap.size + 1, 3, none⟩ = some (.slice none 0 0) := by simp [World.cell?, hB]
    have f0 : w1.frozen? ⟨w.heap.size + 1, 0, none⟩ = false := by simp [World.frozen?, hB]
    have f1 : w1.frozen? ⟨w.heap.size + 1, 1, none⟩ = false := by simp [World.frozen?, hB]
    have f2 : w1.frozen? ⟨w.heap.size + 1, 2, none⟩ = false := by simp [World.frozen?, hB]
    have f3 : w1.frozen? ⟨w.heap.size + 1, 3, none⟩ = false := by simp [World.frozen?, hB]
    have c0 := (Below.cell (p := ⟨w.heap.size, 0, none⟩) kk (by simp; omega)).trans (show _ = some (.bool sp) by simp)
    have c1' := (Below.cell (p := ⟨w.heap.size, 1, none⟩) kk (by simp; omega)).trans (show _ = some (.int .i64 u) by simp)
    have c2 := (Below.cell (p := ⟨w.heap.size, 2, none⟩) kk (by simp; omega)).trans (show _ = some (.slice ad a.length ca) by simp)
    have c3 := (Below.cell (p := ⟨w.heap.size, 3, none⟩) kk (by simp; omega)).trans (show _ = some (.slice bd b.length cb) by simp)
    have K1 := Lib.hid (K0.out.trans kk)
    clear kk C
    go_wp2
    have RD1 := fun o => set4_read hB (.bool sp) (.int .i64 u) (.slice ad a.length ca) (.slice bd b.length cb) (Kp.alloc _ o)
    have RD2 := fun o o' => set4_read hB (.bool sp) (.int .i64 u) (.slice ad a.length ca) (.slice bd b.length cb) ((Kp.alloc _ o).trans (Kp.alloc _ o'))
    have RD0 := set4_read hB (.bool sp) (.int .i64 u) (.slice ad a.length ca) (.slice bd b.length cb) (Kp.refl _)
    exact bodyPost_ret (v := .agg #[.bool sp, .int .i64 u, .slice ad a.length ca, .slice bd b.length cb]) (by simp [results, Tryz.f96, go_sem, RD0, RD1, RD2]) rfl ⟨_, _, rfl, HO.out.kp ((set4_below K1.out (w.heap.size + 1) (by omega) _ _ _ _).trans (by first | with_reducible exact Kp.refl _ | with_reducible exact Kp.alloc _ _ | with_reducible exact (Kp.alloc _ _).trans (Kp.alloc _ _) | with_reducible exact ((Kp.alloc _ _).trans (Kp.alloc _ _)).trans (Kp.alloc _ _) | with_reducible exact Kp.drew _ | with_reducible exact Kp.drewN _ _)), (set4_below K1.out (w.heap.size + 1) (by omega) _ _ _ _).trans (by first | with_reducible exact Kp.refl _ | with_reducible exact Kp.alloc _ _ | with_reducible exact (Kp.alloc _ _).trans (Kp.alloc _ _) | with_reducible exact ((Kp.alloc _ _).trans (Kp.alloc _ _)).trans (Kp.alloc _ _) | with_reducible exact Kp.drew _ | with_reducible exact Kp.drewN _ _)⟩
end Go.Proofs.YtjjpnglilalnmaaGreatDoor

namespace Go.Proofs.YtjjpnglilalnmaaGreatDoor
open Go.RowKit
set_option linter.unusedVariables false
set_option linter.unusedSimpArgs false
def goneB (g : LF) : Bool := decide (g.a.length = 0) || (g.sp && (decide (g.b.length = 0) || decide (greatR g.b < leastR g.a)))
noncomputable def tidL (g : LF) : LF := if goneB g = true then lf0 else if g.sp = true then ⟨true, 0, interR g.a [(0, greatR g.b)], interR g.b [(leastR g.a, 3652424)]⟩ else g
theorem len_mem {s : List R} (h : sane s) : s.length = 0 ↔ ∀ n, ¬ memR s n := by
  constructor
  · intro h0 n hn
    have := mem_pos hn
    omega
  · intro g
    rcases Nat.eq_zero_or_pos s.length with e | e
    · exact e
    · exact absurd (least_mem h e) (g _)
theorem tidL_as (f : LF) : tidL (asL f) = lfOf (famR f) := by
  unfold asL
  rcases Bool.eq_false_or_eq_true (leafB f) with hb | hb
  · rw [if_pos hb]
    rcases Bool.eq_false_or_eq_true f.sp with hs | hs
    · obtain ⟨hu, h1, h2⟩ := leafB_span hb hs
      by_cases h0 : f.a.length = 0 ∨ f.b.length = 0
      · rw [famR_none hb hs h0, lfOf_s0 rfl]
        unfold tidL
        rw [if_pos]
        unfold goneB
        rw [hs]
        rcases h0 with h0 | h0 <;> simp [h0]
      · rw [famR_span hb hs h0]
        have pa : 0 < f.a.length := by omega
        have pb : 0 < f.b.length := by omega
        have sm := span_mem hb hs h0
        have ss : sane (interR f.a [(0, greatR f.b)]) := interR_sane _ _
        by_cases hg : greatR f.b < leastR f.a
        · rw [lfOf_s0 ((len_mem ss).2 (fun n hn => by
            have a1 := ((sm n).1.1 hn)
            have a2 := least_min (setB_sane h1) a1.1
            omega))]
          unfold tidL
          rw [if_pos]
          unfold goneB
          rw [hs, decide_eq_true hg]
          simp
        · rw [lfOf_s1 (fun e => (len_mem ss).1 e (leastR f.a) ((sm _).1.2 ⟨least_mem (setB_sane h1) pa, by omega⟩))]
          unfold tidL
          rw [if_neg, if_pos hs]
          unfold goneB
          rw [hs, decide_eq_false hg, decide_eq_false (by omega), decide_eq_false (by omega)]
          simp
    · obtain ⟨hc, h1, h2⟩ := leafB_units hb hs
      rw [famR_units hb hs]
      by_cases h0 : f.a.length = 0
      · rw [lfOf_u0 h0]
        unfold tidL
        rw [if_pos]
        unfold goneB
        rw [decide_eq_true h0]
        rfl
      · rw [lfOf_u1 h0]
        unfold tidL
        rw [if_neg, if_neg (by rw [hs]; decide)]
        · obtain ⟨sp, u, a, b⟩ := f
          simp only at hs h2 ⊢
          rw [hs, h2]
        · unfold goneB
          rw [hs, decide_eq_false h0]
          simp
  · rw [if_neg (by rw [hb]; decide), famR_no hb, lfOf_u0 rfl]
    rfl
end Go.Proofs.YtjjpnglilalnmaaGreatDoor

namespace Go.Proofs.YtjjpnglilalnmaaGreatDoor
open Go.RowKit
set_option linter.unusedVariables false
set_option linter.unusedSimpArgs false
abbrev uA0 : Oper := { dst := some 8, op := Go.Op.fieldAddr 51 (Go.Operand.tmp 3) 2, type := 0, pos := "ref.go:36", after := #[], guard := none }
abbrev uA1 : Oper := { dst := some 9, op := Go.Op.load 49 (Go.Operand.tmp 8), type := 49, pos := "ref.go:36", after := #[{ on := 0, ground := Go.Ground.data }], guard := none }
abbrev uA2 : Oper := { dst := some 10, op := Go.Op.call { callee := Go.Callee.builtin Go.Builtin.len, args := #[Go.Operand.tmp 9], argTypes := #[49] }, type := 3, pos := "ref.go:36", after := #[{ on := 1, ground := Go.Ground.data }], guard := none }
abbrev uA3 : Oper := { dst := some 11, op := Go.Op.binOp Go.BinOp.eql 3 (Go.Operand.tmp 10) (Go.Operand.const (Go.Value.int Go.IntKind.i64 0)) 3, type := 4, pos := "ref.go:36", after := #[{ on := 2, ground := Go.Ground.data }], guard := none }
abbrev uA4 : Oper := { dst := some 12, op := Go.Op.move (Go.Operand.tmp 11), type := 4, pos := "ref.go:36", after := #[{ on := 3, ground := Go.Ground.data }], guard := none }
abbrev uA5 : Oper := { dst := some 13, op := Go.Op.fieldAddr 51 (Go.Operand.tmp 3) 0, type := 0, pos := "ref.go:36", after := #[{ on := 4, ground := Go.Ground.guard }], guard := some (4, false) }
abbrev uA6 : Oper := { dst := some 14, op := Go.Op.load 4 (Go.Operand.tmp 13), type := 4, pos := "ref.go:36", after := #[{ on := 5, ground := Go.Ground.data }, { on := 4, ground := Go.Ground.guard }], guard := some (4, false) }
abbrev uA7 : Oper := { dst := some 15, op := Go.Op.move (Go.Operand.tmp 14), type := 4, pos := "ref.go:36", after := #[{ on := 6, ground := Go.Ground.data }, { on := 4, ground := Go.Ground.chain }, { on := 4, ground := Go.Ground.guard }], guard := some (4, false) }
abbrev uA8 : Oper := { dst := some 16, op := Go.Op.fieldAddr 51 (Go.Operand.tmp 3) 3, type := 0, pos := "ref.go:36", after := #[{ on := 7, ground := Go.Ground.guard }], guard := some (7, true) }
abbrev uA9 : Oper := { dst := some 17, op := Go.Op.load 49 (Go.Operand.tmp 16), type := 49, pos := "ref.go:36", after := #[{ on := 8, ground := Go.Ground.data }, { on := 7, ground := Go.Ground.guard }], guard := some (7, true) }
abbrev uA10 : Oper := { dst := some 18, op := Go.Op.call { callee := Go.Callee.builtin Go.Builtin.len, args := #[Go.Operand.tmp 17], argTypes := #[49] }, type := 3, pos := "ref.go:36", after := #[{ on := 9, ground := Go.Ground.data }, { on := 7, ground := Go.Ground.guard }], guard := some (7, true) }
abbrev uA11 : Oper := { dst := some 19, op := Go.Op.binOp Go.BinOp.eql 3 (Go.Operand.tmp 18) (Go.Operand.const (Go.Value.int Go.IntKind.i64 0)) 3, type := 4, pos := "ref.go:36", after := #[{ on := 10, ground := Go.Ground.data }, { on := 7, ground := Go.Ground.guard }], guard := some (7, true) }
abbrev uA12 : Oper := { dst := some 20, op := Go.Op.move (Go.Operand.tmp 19), type := 4, pos := "ref.go:36", after := #[{ on := 11, ground := Go.Ground.data }, { on := 7, ground := Go.Ground.chain }, { on := 7, ground := Go.Ground.guard }], guard := some (7, true) }
abbrev uA13 : Oper := { dst := some 21, op := Go.Op.fieldAddr 51 (Go.Operand.tmp 3) 2, type := 0, pos := "ref.go:36", after := #[{ on := 12, ground := Go.Ground.guard }], guard := some (12, false) }
abbrev uA14 : Oper := { dst := some 22, op := Go.Op.load 49 (Go.Operand.tmp 21), type := 49, pos := "ref.go:36", after := #[{ on := 13, ground := Go.Ground.data }, { on := 12, ground := Go.Ground.guard }], guard := some (12, false) }
abbrev uA15 : Oper := { dst := some 23, op := Go.Op.indexAddr 49 (Go.Operand.tmp 22) (Go.Operand.const (Go.Value.int Go.IntKind.i64 0)), type := 0, pos := "ref.go:36", after := #[{ on := 14, ground := Go.Ground.data }, { on := 12, ground := Go.Ground.guard }], guard := some (12, false) }
abbrev uA16 : Oper := { dst := some 24, op := Go.Op.fieldAddr 70 (Go.Operand.tmp 23) 0, type := 0, pos := "ref.go:36", after := #[{ on := 15, ground := Go.Ground.data }, { on := 12, ground := Go.Ground.guard }], guard := some (12, false) }
abbrev uA17 : Oper := { dst := some 25, op := Go.Op.load 3 (Go.Operand.tmp 24), type := 3, pos := "ref.go:36", after := #[{ on := 16, ground := Go.Ground.data }, { on := 12, ground := Go.Ground.guard }], guard := some (12, false) }
abbrev uA18 : Oper := { dst := some 26, op := Go.Op.fieldAddr 51 (Go.Operand.tmp 3) 3, type := 0, pos := "ref.go:36", after := #[{ on := 12, ground := Go.Ground.guard }], guard := some (12, false) }
abbrev uA19 : Oper := { dst := some 27, op := Go.Op.load 49 (Go.Operand.tmp 26), type := 49, pos := "ref.go:36", after := #[{ on := 18, ground := Go.Ground.data }, { on := 12, ground := Go.Ground.guard }], guard := some (12, false) }
abbrev uA20 : Oper := { dst := some 28, op := Go.Op.fieldAddr 51 (Go.Operand.tmp 3) 3, type := 0, pos := "ref.go:36", after := #[{ on := 12, ground := Go.Ground.guard }], guard := some (12, false) }
abbrev uA21 : Oper := { dst := some 29, op := Go.Op.load 49 (Go.Operand.tmp 28), type := 49, pos := "ref.go:36", after := #[{ on := 20, ground := Go.Ground.data }, { on := 12, ground := Go.Ground.guard }], guard := some (12, false) }
abbrev uA22 : Oper := { dst := some 30, op := Go.Op.call { callee := Go.Callee.builtin Go.Builtin.len, args := #[Go.Operand.tmp 29], argTypes := #[49] }, type := 3, pos := "ref.go:36", after := #[{ on := 21, ground := Go.Ground.data }, { on := 12, ground := Go.Ground.guard }], guard := some (12, false) }
abbrev uA23 : Oper := { dst := some 31, op := Go.Op.binOp Go.BinOp.sub 3 (Go.Operand.tmp 30) (Go.Operand.const (Go.Value.int Go.IntKind.i64 1)) 3, type := 3, pos := "ref.go:36", after := #[{ on := 22, ground := Go.Ground.data }, { on := 12, ground := Go.Ground.guard }], guard := some (12, false) }
abbrev uA24 : Oper := { dst := some 32, op := Go.Op.indexAddr 49 (Go.Operand.tmp 27) (Go.Operand.tmp 31), type := 0, pos := "ref.go:36", after := #[{ on := 19, ground := Go.Ground.data }, { on := 23, ground := Go.Ground.data }, { on := 12, ground := Go.Ground.guard }], guard := some (12, false) }
abbrev uA25 : Oper := { dst := some 33, op := Go.Op.fieldAddr 70 (Go.Operand.tmp 32) 1, type := 0, pos := "ref.go:36", after := #[{ on := 24, ground := Go.Ground.data }, { on := 12, ground := Go.Ground.guard }], guard := some (12, false) }
abbrev uA26 : Oper := { dst := some 34, op := Go.Op.load 3 (Go.Operand.tmp 33), type := 3, pos := "ref.go:36", after := #[{ on := 25, ground := Go.Ground.data }, { on := 12, ground := Go.Ground.guard }], guard := some (12, false) }
abbrev uA27 : Oper := { dst := some 35, op := Go.Op.binOp Go.BinOp.gtr 3 (Go.Operand.tmp 25) (Go.Operand.tmp 34) 3, type := 4, pos := "ref.go:36", after := #[{ on := 17, ground := Go.Ground.data }, { on := 26, ground := Go.Ground.data }, { on := 12, ground := Go.Ground.guard }], guard := some (12, false) }
abbrev uA28 : Oper := { dst := some 36, op := Go.Op.pick (Go.Operand.tmp 20) (Go.Operand.const (Go.Value.bool true)) (Go.Operand.tmp 35), type := 4, pos := "ref.go:36", after := #[{ on := 12, ground := Go.Ground.data }, { on := 27, ground := Go.Ground.data }, { on := 7, ground := Go.Ground.guard }], guard := some (7, true) }
abbrev uA29 : Oper := { dst := some 37, op := Go.Op.pick (Go.Operand.tmp 15) (Go.Operand.tmp 36) (Go.Operand.const (Go.Value.bool false)), type := 4, pos := "ref.go:36", after := #[{ on := 7, ground := Go.Ground.data }, { on := 28, ground := Go.Ground.data }, { on := 4, ground := Go.Ground.guard }], guard := some (4, false) }
abbrev uA30 : Oper := { dst := some 38, op := Go.Op.pick (Go.Operand.tmp 12) (Go.Operand.const (Go.Value.bool true)) (Go.Operand.tmp 37), type := 4, pos := "ref.go:36", after := #[{ on := 4, ground := Go.Ground.data }, { on := 29, ground := Go.Ground.data }], guard := none }
abbrev uB0 : Oper := { dst := some 44, op := Go.Op.fieldAddr 51 (Go.Operand.tmp 3) 2, type := 0, pos := "ref.go:42", after := #[], guard := none }
abbrev uB1 : Oper := { dst := some 45, op := Go.Op.load 49 (Go.Operand.tmp 44), type := 49, pos := "ref.go:42", after := #[{ on := 0, ground := Go.Ground.data }], guard := none }
abbrev uB2 : Oper := { dst := some 46, op := Go.Op.fieldAddr 51 (Go.Operand.tmp 3) 3, type := 0, pos := "ref.go:42", after := #[], guard := none }
abbrev uB3 : Oper := { dst := some 47, op := Go.Op.load 49 (Go.Operand.tmp 46), type := 49, pos := "ref.go:42", after := #[{ on := 2, ground := Go.Ground.data }], guard := none }
abbrev uB4 : Oper := { dst := some 48, op := Go.Op.fieldAddr 51 (Go.Operand.tmp 3) 3, type := 0, pos := "ref.go:42", after := #[], guard := none }
abbrev uB5 : Oper := { dst := some 49, op := Go.Op.load 49 (Go.Operand.tmp 48), type := 49, pos := "ref.go:42", after := #[{ on := 4, ground := Go.Ground.data }], guard := none }
abbrev uB6 : Oper := { dst := some 50, op := Go.Op.call { callee := Go.Callee.builtin Go.Builtin.len, args := #[Go.Operand.tmp 49], argTypes := #[49] }, type := 3, pos := "ref.go:42", after := #[{ on := 5, ground := Go.Ground.data }], guard := none }
abbrev uB7 : Oper := { dst := some 51, op := Go.Op.binOp Go.BinOp.sub 3 (Go.Operand.tmp 50) (Go.Operand.const (Go.Value.int Go.IntKind.i64 1)) 3, type := 3, pos := "ref.go:42", after := #[{ on := 6, ground := Go.Ground.data }], guard := none }
abbrev uB8 : Oper := { dst := some 52, op := Go.Op.indexAddr 49 (Go.Operand.tmp 47) (Go.Operand.tmp 51), type := 0, pos := "ref.go:42", after := #[{ on := 3, ground := Go.Ground.data }, { on := 7, ground := Go.Ground.data }], guard := none }
abbrev uB9 : Oper := { dst := some 53, op := Go.Op.fieldAddr 70 (Go.Operand.tmp 52) 1, type := 0, pos := "ref.go:42", after := #[{ on := 8, ground := Go.Ground.data }], guard := none }
abbrev uB10 : Oper := { dst := some 54, op := Go.Op.load 3 (Go.Operand.tmp 53), type := 3, pos := "ref.go:42", after := #[{ on := 9, ground := Go.Ground.data }], guard := none }
abbrev uB11 : Oper := { dst := some 55, op := Go.Op.call { callee := Go.Callee.value (Go.Operand.func 97), args := #[Go.Operand.tmp 45, Go.Operand.const (Go.Value.int Go.IntKind.i64 0), Go.Operand.tmp 54], argTypes := #[49, 3, 3] }, type := 49, pos := "ref.go:42", after := #[{ on := 1, ground := Go.Ground.data }, { on := 10, ground := Go.Ground.data }], guard := none }
abbrev uB12 : Oper := { dst := some 4, op := Go.Op.assign (Go.Operand.tmp 55), type := 49, pos := "ref.go:42", after := #[{ on := 11, ground := Go.Ground.data }, { on := 11, ground := Go.Ground.chain }, { on := 0, ground := Go.Ground.phase }, { on := 1, ground := Go.Ground.phase }, { on := 2, ground := Go.Ground.phase }, { on := 3, ground := Go.Ground.phase }, { on := 4, ground := Go.Ground.phase }, { on := 5, ground := Go.Ground.phase }, { on := 6, ground := Go.Ground.phase }, { on := 7, ground := Go.Ground.phase }, { on := 8, ground := Go.Ground.phase }, { on := 9, ground := Go.Ground.phase }, { on := 10, ground := Go.Ground.phase }, { on := 11, ground := Go.Ground.phase }], guard := none }
abbrev uC0 : Oper := { dst := some 56, op := Go.Op.fieldAddr 51 (Go.Operand.tmp 3) 3, type := 0, pos := "ref.go:43", after := #[], guard := none }
abbrev uC1 : Oper := { dst := some 57, op := Go.Op.load 49 (Go.Operand.tmp 56), type := 49, pos := "ref.go:43", after := #[{ on := 0, ground := Go.Ground.data }], guard := none }
abbrev uC2 : Oper := { dst := some 58, op := Go.Op.fieldAddr 51 (Go.Operand.tmp 3) 2, type := 0, pos := "ref.go:43", after := #[], guard := none }
abbrev uC3 : Oper := { dst := some 59, op := Go.Op.load 49 (Go.Operand.tmp 58), type := 49, pos := "ref.go:43", after := #[{ on := 2, ground := Go.Ground.data }], guard := none }
abbrev uC4 : Oper := { dst := some 60, op := Go.Op.indexAddr 49 (Go.Operand.tmp 59) (Go.Operand.const (Go.Value.int Go.IntKind.i64 0)), type := 0, pos := "ref.go:43", after := #[{ on := 3, ground := Go.Ground.data }], guard := none }
abbrev uC5 : Oper := { dst := some 61, op := Go.Op.fieldAddr 70 (Go.Operand.tmp 60) 0, type := 0, pos := "ref.go:43", after := #[{ on := 4, ground := Go.Ground.data }], guard := none }
abbrev uC6 : Oper := { dst := some 62, op := Go.Op.load 3 (Go.Operand.tmp 61), type := 3, pos := "ref.go:43", after := #[{ on := 5, ground := Go.Ground.data }], guard := none }
abbrev uC7 : Oper := { dst := some 63, op := Go.Op.call { callee := Go.Callee.value (Go.Operand.func 97), args := #[Go.Operand.tmp 57, Go.Operand.tmp 62, Go.Operand.const (Go.Value.int Go.IntKind.i64 3652424)], argTypes := #[49, 3, 3] }, type := 49, pos := "ref.go:43", after := #[{ on := 1, ground := Go.Ground.data }, { on := 6, ground := Go.Ground.data }], guard := none }
abbrev uC8 : Oper := { dst := some 5, op := Go.Op.assign (Go.Operand.tmp 63), type := 49, pos := "ref.go:43", after := #[{ on := 7, ground := Go.Ground.data }, { on := 7, ground := Go.Ground.chain }, { on := 0, ground := Go.Ground.phase }, { on := 1, ground := Go.Ground.phase }, { on := 2, ground := Go.Ground.phase }, { on := 3, ground := Go.Ground.phase }, { on := 4, ground := Go.Ground.phase }, { on := 5, ground := Go.Ground.phase }, { on := 6, ground := Go.Ground.phase }, { on := 7, ground := Go.Ground.phase }], guard := none }
theorem LeafOk.kp4 {w : World} {f : LF} {va vb : Value} (h : LeafOk w f va vb) {B : Nat} {t : TypeId} {x : Bool} {y : Int} {a b : Option Addr} {n c m d : Nat} {fr : Nat × Nat}
    (hB : w.heap[B]? = some (.cells #[.bool x, .int .i64 y, .slice a n c, .slice b m d] t fr)) {x0 x1 x2 x3 : Value} : LeafOk ((((w.setCell ⟨B, 0, none⟩ x0).setCell ⟨B, 1, none⟩ x1).setCell ⟨B, 2, none⟩ x2).setCell ⟨B, 3, none⟩ x3) f va vb :=
  ⟨h.a.off hB (fun k o e => set4_cell w B x0 x1 x2 x3 k o e), h.b.off hB (fun k o e => set4_cell w B x0 x1 x2 x3 k o e), h.ia, h.ib, h.na, h.nb⟩
set_option maxHeartbeats 16000000 in
set_option maxRecDepth 100000 in
theorem refTidy_1 (spg : Bool) (ug : Int) (ag bg : List R) (iag : I64R ag) (ibg : I64R bg) (f : LF) (va vb : Value) (w : World) (h : LeafOk w f va vb) (hf : asL f = ⟨spg, ug, ag, bg⟩) (h0 : ag.length = 0) :
    Calls Tryz.prog 72 #[leafV f va vb] w fun e w' => ∃ va' vb', e = .returned (leafV (lf0) va' vb') ∧ LeafOk w' (lf0) va' vb' ∧ Kp w w' := by
  have C := Lib.hid (fun w1 (kk : Kp w w1) => refAs_any f va vb w1 (h.kp kk))
  rw [hf] at C
  clear hf
  obtain ⟨sp, u, a, b⟩ := f
  obtain ⟨ad, ca, rfl⟩ := h.a.slice
  obtain ⟨bd, cb, rfl⟩ := h.b.slice
  simp only [leafV] at C ⊢
  have K0 := Lib.hid ((Kp.alloc w (.cells #[.bool sp, .int .i64 u, .slice ad a.length ca, .slice bd b.length cb] 51)).trans (Kp.alloc _ (.cells #[.bool false, .int .i64 0, .slice none 0 0, .slice none 0 0] 51)))
  clear h
  have q0 : ((ag.length : Int) == 0) = true := by rw [h0]; rfl
  clear h0
  go_enter Tryz.func72, Tryz.ntmps72
  go_wp2_with fail
  refine (C.out _ K0.out).mono ?_
  rintro e w1 ⟨ga, gb, rfl, okg, kk⟩
  have hB := (kk.block (w.heap.size + 1) (by simp)).trans (heap_at (w.alloc _) (.cells #[.bool false, .int .i64 0, .slice none 0 0, .slice none 0 0] 51 (0, 0)) (w.heap.size + 1) (by simp))
  have s1 := kk.size
  simp at s1
  have K1 := Lib.hid (K0.out.trans kk)
  clear kk C
  obtain ⟨adg, cag, rfl⟩ := okg.a.slice
  obtain ⟨bdg, cbg, rfl⟩ := okg.b.slice
  have na := okg.na
  have nb := okg.nb
  simp only at na nb
  obtain ⟨V, hV⟩ : ∃ x, x = w1.alloc (.cells #[.bool spg, .int .i64 ug, .slice adg ag.length cag, .slice bdg bg.length cbg] 51) := ⟨_, rfl⟩
  have ka : Kp w1 V := by rw [hV]; exact Kp.alloc _ _
  have hgq : V.heap[w1.heap.size]? = some (.cells #[.bool spg, .int .i64 ug, .slice adg ag.length cag, .slice bdg bg.length cbg] 51 (0, 0)) := by rw [hV]; exact heap_at _ _ _ rfl
  have g0 : V.cell? ⟨w1.heap.size, 0, none⟩ = some (.bool spg) := by simp [World.cell?, hgq]
  have g1 : V.cell? ⟨w1.heap.size, 1, none⟩ = some (.int .i64 ug) := by simp [World.cell?, hgq]
  have g2 : V.cell? ⟨w1.heap.size, 2, none⟩ = some (.slice adg ag.length cag) := by simp [World.cell?, hgq]
  have g3 : V.cell? ⟨w1.heap.size, 3, none⟩ = some (.slice bdg bg.length cbg) := by simp [World.cell?, hgq]
  have HB := Lib.hid (fun w' (k : Kp V w') => show w'.cell? ⟨w1.heap.size, 0, none⟩ = some (.bool spg) ∧ w'.cell? ⟨w1.heap.size, 1, none⟩ = some (.int .i64 ug) ∧ w'.cell? ⟨w1.heap.size, 2, none⟩ = some (.slice adg ag.length cag) ∧ w'.cell? ⟨w1.heap.size, 3, none⟩ = some (.slice bdg bg.length cbg) ∧ Kp V w' from ⟨cell_up k g0, cell_up k g1, cell_up k g2, cell_up k g3, k⟩)
  have hBV := heap_block ka hB
  have KV := Lib.hid (K1.out.trans ka)
  have HV := Lib.hid hV
  have OKV := Lib.hid (okg.kp ka)
  clear hV ka hgq g0 g1 g2 g3  hB okg
  go_wp2_with fail
  rw [← HV.out]
  refine wp_region_held_drew (S := fun w' => w'.cell? ⟨w1.heap.size, 0, none⟩ = some (.bool spg) ∧ w'.cell? ⟨w1.heap.size, 1, none⟩ = some (.int .i64 ug) ∧ w'.cell? ⟨w1.heap.size, 2, none⟩ = some (.slice adg ag.length cag) ∧ w'.cell? ⟨w1.heap.size, 3, none⟩ = some (.slice bdg bg.length cbg) ∧ Kp V w') (by kernel_rfl) ?_ (fun hHeld0 => ?_)
  · (try dsimp only); exact HB.out _ (by first | assumption | exact Kp.drew _)
  refine tkW (v := ?_) 0 uA0 rfl (by kernel_rfl) (by kernel_rfl) (by kernel_rfl) (fun _ _ _ h => h) (by rfl) ?_ (by assumption) ?_
  rotate_left
  · intro w hSw; (try dsimp only at hSw); go_simp; (try with_reducible rfl)
  (try simp only [Act.put, uA0, List.setIfInBounds_toArray, List.set_cons_zero, List.set_cons_succ])
  refine tkW (v := ?_) 1 uA1 rfl (by kernel_rfl) (by kernel_rfl) (by kernel_rfl) (fun _ _ _ h => h) (by rfl) ?_ (by assumption) ?_
  rotate_left
  · intro w hSw; (try dsimp only at hSw); go_simp; (try with_reducible rfl)
  (try simp only [Act.put, uA1, List.setIfInBounds_toArray, List.set_cons_zero, List.set_cons_succ])
  refine tkW (v := ?_) 2 uA2 rfl (by kernel_rfl) (by kernel_rfl) (by kernel_rfl) (fun _ _ _ h => h) (by rfl) ?_ (by assumption) ?_
  rotate_left
  · intro w hSw; (try dsimp only at hSw); go_simp; (try with_reducible rfl)
  (try simp only [Act.put, uA2, List.setIfInBounds_toArray, List.set_cons_zero, List.set_cons_succ])
  refine tkW (v := ?_) 3 uA3 rfl (by kernel_rfl) (by kernel_rfl) (by kernel_rfl) (fun _ _ _ h => h) (by rfl) ?_ (by assumption) ?_
  rotate_left
  · intro w hSw; (try dsimp only at hSw); go_simp; (try with_reducible rfl)
  (try simp only [Act.put, uA3, List.setIfInBounds_toArray, List.set_cons_zero, List.set_cons_succ])
  refine tkW (v := ?_) 4 uA4 rfl (by kernel_rfl) (by kernel_rfl) (by kernel_rfl) (fun _ _ _ h => h) (by rfl) ?_ (by assumption) ?_
  rotate_left
  · intro w hSw; (try dsimp only at hSw); go_simp; (try with_reducible rfl)
  (try simp only [Act.put, uA4, List.setIfInBounds_toArray, List.set_cons_zero, List.set_cons_succ])
  refine tkU 5 uA5 rfl (by kernel_rfl) (by kernel_rfl) (by kernel_rfl) (fun _ _ _ h => h) (by rfl) (by assumption) ?_
  (try simp only [Act.put, uA5, List.setIfInBounds_toArray, List.set_cons_zero, List.set_cons_succ])
  refine tkU 6 uA6 rfl (by kernel_rfl) (by kernel_rfl) (by kernel_rfl) (fun _ _ _ h => h) (by rfl) (by assumption) ?_
  (try simp only [Act.put, uA6, List.setIfInBounds_toArray, List.set_cons_zero, List.set_cons_succ])
  refine tkU 7 uA7 rfl (by kernel_rfl) (by kernel_rfl) (by kernel_rfl) (fun _ _ _ h => h) (by rfl) (by assumption) ?_
  (try simp only [Act.put, uA7, List.setIfInBounds_toArray, List.set_cons_zero, List.set_cons_succ])
  refine tkU 8 uA8 rfl (by kernel_rfl) (by kernel_rfl) (by kernel_rfl) (fun _ _ _ h => h) (by rfl) (by assumption) ?_
  (try simp only [Act.put, uA8, List.setIfInBounds_toArray, List.set_cons_zero, List.set_cons_succ])
  refine tkU 9 uA9 rfl (by kernel_rfl) (by kernel_rfl) (by kernel_rfl) (fun _ _ _ h => h) (by rfl) (by assumption) ?_
  (try simp only [Act.put, uA9, List.setIfInBounds_toArray, List.set_cons_zero, List.set_cons_succ])
  refine tkU 10 uA10 rfl (by kernel_rfl) (by kernel_rfl) (by kernel_rfl) (fun _ _ _ h => h) (by rfl) (by assumption) ?_
  (try simp only [Act.put, uA10, List.setIfInBounds_toArray, List.set_cons_zero, List.set_cons_succ])
  refine tkU 11 uA11 rfl (by kernel_rfl) (by kernel_rfl) (by kernel_rfl) (fun _ _ _ h => h) (by rfl) (by assumption) ?_
  (try simp only [Act.put, uA11, List.setIfInBounds_toArray, List.set_cons_zero, List.set_cons_succ])
  refine tkU 12 uA12 rfl (by kernel_rfl) (by kernel_rfl) (by kernel_rfl) (fun _ _ _ h => h) (by rfl) (by assumption) ?_
  (try simp only [Act.put, uA12, List.setIfInBounds_toArray, List.set_cons_zero, List.set_cons_succ])
  refine tkU 13 uA13 rfl (by kernel_rfl) (by kernel_rfl) (by kernel_rfl) (fun _ _ _ h => h) (by rfl) (by assumption) ?_
  (try simp only [Act.put, uA13, List.setIfInBounds_toArray, List.set_cons_zero, List.set_cons_succ])
  refine tkU 14 uA14 rfl (by kernel_rfl) (by kernel_rfl) (by kernel_rfl) (fun _ _ _ h => h) (by rfl) (by assumption) ?_
  (try simp only [Act.put, uA14, List.setIfInBounds_toArray, List.set_cons_zero, List.set_cons_succ])
  refine tkU 15 uA15 rfl (by kernel_rfl) (by kernel_rfl) (by kernel_rfl) (fun _ _ _ h => h) (by rfl) (by assumption) ?_
  (try simp only [Act.put, uA15, List.setIfInBounds_toArray, List.set_cons_zero, List.set_cons_succ])
  refine tkU 16 uA16 rfl (by kernel_rfl) (by kernel_rfl) (by kernel_rfl) (fun _ _ _ h => h) (by rfl) (by assumption) ?_
  (try simp only [Act.put, uA16, List.setIfInBounds_toArray, List.set_cons_zero, List.set_cons_succ])
  refine tkU 17 uA17 rfl (by kernel_rfl) (by kernel_rfl) (by kernel_rfl) (fun _ _ _ h => h) (by rfl) (by assumption) ?_
  (try simp only [Act.put, uA17, List.setIfInBounds_toArray, List.set_cons_zero, List.set_cons_succ])
  refine tkU 18 uA18 rfl (by kernel_rfl) (by kernel_rfl) (by kernel_rfl) (fun _ _ _ h => h) (by rfl) (by assumption) ?_
  (try simp only [Act.put, uA18, List.setIfInBounds_toArray, List.set_cons_zero, List.set_cons_succ])
  refine tkU 19 uA19 rfl (by kernel_rfl) (by kernel_rfl) (by kernel_rfl) (fun _ _ _ h => h) (by rfl) (by assumption) ?_
  (try simp only [Act.put, uA19, List.setIfInBounds_toArray, List.set_cons_zero, List.set_cons_succ])
  refine tkU 20 uA20 rfl (by kernel_rfl) (by kernel_rfl) (by kernel_rfl) (fun _ _ _ h => h) (by rfl) (by assumption) ?_
  (try simp only [Act.put, uA20, List.setIfInBounds_toArray, List.set_cons_zero, List.set_cons_succ])
  refine tkU 21 uA21 rfl (by kernel_rfl) (by kernel_rfl) (by kernel_rfl) (fun _ _ _ h => h) (by rfl) (by assumption) ?_
  (try simp only [Act.put, uA21, List.setIfInBounds_toArray, List.set_cons_zero, List.set_cons_succ])
  refine tkU 22 uA22 rfl (by kernel_rfl) (by kernel_rfl) (by kernel_rfl) (fun _ _ _ h => h) (by rfl) (by assumption) ?_
  (try simp only [Act.put, uA22, List.setIfInBounds_toArray, List.set_cons_zero, List.set_cons_succ])
  refine tkU 23 uA23 rfl (by kernel_rfl) (by kernel_rfl) (by kernel_rfl) (fun _ _ _ h => h) (by rfl) (by assumption) ?_
  (try simp only [Act.put, uA23, List.setIfInBounds_toArray, List.set_cons_zero, List.set_cons_succ])
  refine tkU 24 uA24 rfl (by kernel_rfl) (by kernel_rfl) (by kernel_rfl) (fun _ _ _ h => h) (by rfl) (by assumption) ?_
  (try simp only [Act.put, uA24, List.setIfInBounds_toArray, List.set_cons_zero, List.set_cons_succ])
  refine tkU 25 uA25 rfl (by kernel_rfl) (by kernel_rfl) (by kernel_rfl) (fun _ _ _ h => h) (by rfl) (by assumption) ?_
  (try simp only [Act.put, uA25, List.setIfInBounds_toArray, List.set_cons_zero, List.set_cons_succ])
  refine tkU 26 uA26 rfl (by kernel_rfl) (by kernel_rfl) (by kernel_rfl) (fun _ _ _ h => h) (by rfl) (by assumption) ?_
  (try simp only [Act.put, uA26, List.setIfInBounds_toArray, List.set_cons_zero, List.set_cons_succ])
  refine tkU 27 uA27 rfl (by kernel_rfl) (by kernel_rfl) (by kernel_rfl) (fun _ _ _ h => h) (by rfl) (by assumption) ?_
  (try simp only [Act.put, uA27, List.setIfInBounds_toArray, List.set_cons_zero, List.set_cons_succ])
  refine tkU 28 uA28 rfl (by kernel_rfl) (by kernel_rfl) (by kernel_rfl) (fun _ _ _ h => h) (by rfl) (by assumption) ?_
  (try simp only [Act.put, uA28, List.setIfInBounds_toArray, List.set_cons_zero, List.set_cons_succ])
  refine tkU 29 uA29 rfl (by kernel_rfl) (by kernel_rfl) (by kernel_rfl) (fun _ _ _ h => h) (by rfl) (by assumption) ?_
  (try simp only [Act.put, uA29, List.setIfInBounds_toArray, List.set_cons_zero, List.set_cons_succ])
  refine tkW (v := ?_) 30 uA30 rfl (by kernel_rfl) (by kernel_rfl) (by kernel_rfl) (fun _ _ _ h => h) (by rfl) ?_ (by assumption) ?_
  rotate_left
  · intro w hSw; (try dsimp only at hSw); go_simp; (try with_reducible rfl)
  (try simp only [Act.put, uA30, List.setIfInBounds_toArray, List.set_cons_zero, List.set_cons_succ])
  refine wpAnyH_done (by kernel_rfl) ?_ _
  obtain ⟨X, hX⟩ : ∃ x, x = V.drew := ⟨_, rfl⟩
  have hBX : X.heap[w.heap.size + 1]? = some (.cells #[.bool false, .int .i64 0, .slice none 0 0, .slice none 0 0] 51 (0, 0)) := by rw [hX]; exact hBV
  have kx : Kp V X := by rw [hX]; exact Kp.drew _
  have KX := Lib.hid kx
  have KWX := Lib.hid (KV.out.trans kx)
  rw [← hX]
  clear hX hBV kx
  obtain ⟨c0, c1, c2, c3, _⟩ := HB.out X KX.out
  have r0 : X.cell? ⟨w.heap.size + 1, 0, none⟩ = some (.bool false) := by simp [World.cell?, hBX]
  have f0 : X.frozen? ⟨w.heap.size + 1, 0, none⟩ = false := by simp [World.frozen?, hBX]
  have r1 : X.cell? ⟨w.heap.size + 1, 1, none⟩ = some (.int .i64 0) := by simp [World.cell?, hBX]
  have f1 : X.frozen? ⟨w.heap.size + 1, 1, none⟩ = false := by simp [World.frozen?, hBX]
  have r2 : X.cell? ⟨w.heap.size + 1, 2, none⟩ = some (.slice none 0 0) := by simp [World.cell?, hBX]
  have f2 : X.frozen? ⟨w.heap.size + 1, 2, none⟩ = false := by simp [World.frozen?, hBX]
  have r3 : X.cell? ⟨w.heap.size + 1, 3, none⟩ = some (.slice none 0 0) := by simp [World.cell?, hBX]
  have f3 : X.frozen? ⟨w.heap.size + 1, 3, none⟩ = false := by simp [World.frozen?, hBX]
  have sx := KWX.out.size
  go_wp2
  have RD0 := set4_read hBX (.bool false) (.int .i64 0) (.slice none 0 0) (.slice none 0 0) (Kp.refl _)
  exact bodyPost_ret (v := .agg #[.bool false, .int .i64 0, .slice none 0 0, .slice none 0 0]) (by simp [results, Tryz.f72, go_sem, RD0]) rfl ⟨.slice none 0 0, .slice none 0 0, rfl, lf0_ok _, set4_below KWX.out (w.heap.size + 1) (by omega) _ _ _ _⟩
set_option maxHeartbeats 16000000 in
set_option maxRecDepth 100000 in
theorem refTidy_2 (spg : Bool) (ug : Int) (ag bg : List R) (iag : I64R ag) (ibg : I64R bg) (f : LF) (va vb : Value) (w : World) (h : LeafOk w f va vb) (hf : asL f = ⟨spg, ug, ag, bg⟩) (h0 : ag.length ≠ 0) (hs : spg = false) :
    Calls Tryz.prog 72 #[leafV f va vb] w fun e w' => ∃ va' vb', e = .returned (leafV (⟨false, ug, ag, bg⟩) va' vb') ∧ LeafOk w' (⟨false, ug, ag, bg⟩) va' vb' ∧ Kp w w' := by
  have C := Lib.hid (fun w1 (kk : Kp w w1) => refAs_any f va vb w1 (h.kp kk))
  rw [hf] at C
  clear hf
  obtain ⟨sp, u, a, b⟩ := f
  obtain ⟨ad, ca, rfl⟩ := h.a.slice
  obtain ⟨bd, cb, rfl⟩ := h.b.slice
  simp only [leafV] at C ⊢
  have K0 := Lib.hid ((Kp.alloc w (.cells #[.bool sp, .int .i64 u, .slice ad a.length ca, .slice bd b.length cb] 51)).trans (Kp.alloc _ (.cells #[.bool false, .int .i64 0, .slice none 0 0, .slice none 0 0] 51)))
  clear h
  subst hs
  have q0 : ((ag.length : Int) == 0) = false := beq_eq_false_iff_ne.2 (by omega)
  go_enter Tryz.func72, Tryz.ntmps72
  go_wp2_with fail
  refine (C.out _ K0.out).mono ?_
  rintro e w1 ⟨ga, gb, rfl, okg, kk⟩
  have hB := (kk.block (w.heap.size + 1) (by simp)).trans (heap_at (w.alloc _) (.cells #[.bool false, .int .i64 0, .slice none 0 0, .slice none 0 0] 51 (0, 0)) (w.heap.size + 1) (by simp))
  have s1 := kk.size
  simp at s1
  have K1 := Lib.hid (K0.out.trans kk)
  clear kk C
  obtain ⟨ba, oa, cag, ev, x0, x1⟩ := ends_at okg.a (by simp only; omega)
  subst ev
  obtain ⟨bdg, cbg, rfl⟩ := okg.b.slice
  have na := okg.na
  have nb := okg.nb
  simp only at na nb x0 x1
  obtain ⟨V, hV⟩ : ∃ x, x = w1.alloc (.cells #[.bool false, .int .i64 ug, .slice (some ⟨ba, oa, none⟩) ag.length cag, .slice bdg bg.length cbg] 51) := ⟨_, rfl⟩
  have ka : Kp w1 V := by rw [hV]; exact Kp.alloc _ _
  have hgq : V.heap[w1.heap.size]? = some (.cells #[.bool false, .int .i64 ug, .slice (some ⟨ba, oa, none⟩) ag.length cag, .slice bdg bg.length cbg] 51 (0, 0)) := by rw [hV]; exact heap_at _ _ _ rfl
  have g0 : V.cell? ⟨w1.heap.size, 0, none⟩ = some (.bool false) := by simp [World.cell?, hgq]
  have g1 : V.cell? ⟨w1.heap.size, 1, none⟩ = some (.int .i64 ug) := by simp [World.cell?, hgq]
  have g2 : V.cell? ⟨w1.heap.size, 2, none⟩ = some (.slice (some ⟨ba, oa, none⟩) ag.length cag) := by simp [World.cell?, hgq]
  have g3 : V.cell? ⟨w1.heap.size, 3, none⟩ = some (.slice bdg bg.length cbg) := by simp [World.cell?, hgq]
  have HB := Lib.hid (fun w' (k : Kp V w') => show w'.cell? ⟨w1.heap.size, 0, none⟩ = some (.bool false) ∧ w'.cell? ⟨w1.heap.size, 1, none⟩ = some (.int .i64 ug) ∧ w'.cell? ⟨w1.heap.size, 2, none⟩ = some (.slice (some ⟨ba, oa, none⟩) ag.length cag) ∧ w'.cell? ⟨w1.heap.size, 3, none⟩ = some (.slice bdg bg.length cbg) ∧ w'.cell? ⟨ba, oa, none⟩ = some (.int .i64 (leastR ag)) ∧ w'.cell? ⟨ba, oa + (ag.length - 1) * 2 + 1, none⟩ = some (.int .i64 (greatR ag)) ∧ Kp V w' from ⟨cell_up k g0, cell_up k g1, cell_up k g2, cell_up k g3, cell_up (ka.trans k) x0, cell_up (ka.trans k) x1, k⟩)
  have hBV := heap_block ka hB
  have KV := Lib.hid (K1.out.trans ka)
  have HV := Lib.hid hV
  have OKV := Lib.hid (okg.kp ka)
  have wz : 0 < ag.length := by omega
  clear hV ka hgq g0 g1 g2 g3 x0 x1 hB okg
  go_wp2_with fail
  rw [← HV.out]
  refine wp_region_held_drew (S := fun w' => w'.cell? ⟨w1.heap.size, 0, none⟩ = some (.bool false) ∧ w'.cell? ⟨w1.heap.size, 1, none⟩ = some (.int .i64 ug) ∧ w'.cell? ⟨w1.heap.size, 2, none⟩ = some (.slice (some ⟨ba, oa, none⟩) ag.length cag) ∧ w'.cell? ⟨w1.heap.size, 3, none⟩ = some (.slice bdg bg.length cbg) ∧ w'.cell? ⟨ba, oa, none⟩ = some (.int .i64 (leastR ag)) ∧ w'.cell? ⟨ba, oa + (ag.length - 1) * 2 + 1, none⟩ = some (.int .i64 (greatR ag)) ∧ Kp V w') (by kernel_rfl) ?_ (fun hHeld0 => ?_)
  · (try dsimp only); exact HB.out _ (by first | assumption | exact Kp.drew _)
  refine tkW (v := ?_) 0 uA0 rfl (by kernel_rfl) (by kernel_rfl) (by kernel_rfl) (fun _ _ _ h => h) (by rfl) ?_ (by assumption) ?_
  rotate_left
  · intro w hSw; (try dsimp only at hSw); go_simp; (try with_reducible rfl)
  (try simp only [Act.put, uA0, List.setIfInBounds_toArray, List.set_cons_zero, List.set_cons_succ])
  refine tkW (v := ?_) 1 uA1 rfl (by kernel_rfl) (by kernel_rfl) (by kernel_rfl) (fun _ _ _ h => h) (by rfl) ?_ (by assumption) ?_
  rotate_left
  · intro w hSw; (try dsimp only at hSw); go_simp; (try with_reducible rfl)
  (try simp only [Act.put, uA1, List.setIfInBounds_toArray, List.set_cons_zero, List.set_cons_succ])
  refine tkW (v := ?_) 2 uA2 rfl (by kernel_rfl) (by kernel_rfl) (by kernel_rfl) (fun _ _ _ h => h) (by rfl) ?_ (by assumption) ?_
  rotate_left
  · intro w hSw; (try dsimp only at hSw); go_simp; (try with_reducible rfl)
  (try simp only [Act.put, uA2, List.setIfInBounds_toArray, List.set_cons_zero, List.set_cons_succ])
  refine tkW (v := ?_) 3 uA3 rfl (by kernel_rfl) (by kernel_rfl) (by kernel_rfl) (fun _ _ _ h => h) (by rfl) ?_ (by assumption) ?_
  rotate_left
  · intro w hSw; (try dsimp only at hSw); go_simp; (try with_reducible rfl)
  (try simp only [Act.put, uA3, List.setIfInBounds_toArray, List.set_cons_zero, List.set_cons_succ])
  refine tkW (v := ?_) 4 uA4 rfl (by kernel_rfl) (by kernel_rfl) (by kernel_rfl) (fun _ _ _ h => h) (by rfl) ?_ (by assumption) ?_
  rotate_left
  · intro w hSw; (try dsimp only at hSw); go_simp; (try with_reducible rfl)
  (try simp only [Act.put, uA4, List.setIfInBounds_toArray, List.set_cons_zero, List.set_cons_succ])
  refine tkW (v := ?_) 5 uA5 rfl (by kernel_rfl) (by kernel_rfl) (by kernel_rfl) (fun _ _ _ h => h) (by rfl) ?_ (by assumption) ?_
  rotate_left
  · intro w hSw; (try dsimp only at hSw); go_simp; (try with_reducible rfl)
  (try simp only [Act.put, uA5, List.setIfInBounds_toArray, List.set_cons_zero, List.set_cons_succ])
  refine tkW (v := ?_) 6 uA6 rfl (by kernel_rfl) (by kernel_rfl) (by kernel_rfl) (fun _ _ _ h => h) (by rfl) ?_ (by assumption) ?_
  rotate_left
  · intro w hSw; (try dsimp only at hSw); go_simp; (try with_reducible rfl)
  (try simp only [Act.put, uA6, List.setIfInBounds_toArray, List.set_cons_zero, List.set_cons_succ])
  refine tkW (v := ?_) 7 uA7 rfl (by kernel_rfl) (by kernel_rfl) (by kernel_rfl) (fun _ _ _ h => h) (by rfl) ?_ (by assumption) ?_
  rotate_left
  · intro w hSw; (try dsimp only at hSw); go_simp; (try with_reducible rfl)
  (try simp only [Act.put, uA7, List.setIfInBounds_toArray, List.set_cons_zero, List.set_cons_succ])
  refine tkU 8 uA8 rfl (by kernel_rfl) (by kernel_rfl) (by kernel_rfl) (fun _ _ _ h => h) (by rfl) (by assumption) ?_
  (try simp only [Act.put, uA8, List.setIfInBounds_toArray, List.set_cons_zero, List.set_cons_succ])
  refine tkU 9 uA9 rfl (by kernel_rfl) (by kernel_rfl) (by kernel_rfl) (fun _ _ _ h => h) (by rfl) (by assumption) ?_
  (try simp only [Act.put, uA9, List.setIfInBounds_toArray, List.set_cons_zero, List.set_cons_succ])
  refine tkU 10 uA10 rfl (by kernel_rfl) (by kernel_rfl) (by kernel_rfl) (fun _ _ _ h => h) (by rfl) (by assumption) ?_
  (try simp only [Act.put, uA10, List.setIfInBounds_toArray, List.set_cons_zero, List.set_cons_succ])
  refine tkU 11 uA11 rfl (by kernel_rfl) (by kernel_rfl) (by kernel_rfl) (fun _ _ _ h => h) (by rfl) (by assumption) ?_
  (try simp only [Act.put, uA11, List.setIfInBounds_toArray, List.set_cons_zero, List.set_cons_succ])
  refine tkU 12 uA12 rfl (by kernel_rfl) (by kernel_rfl) (by kernel_rfl) (fun _ _ _ h => h) (by rfl) (by assumption) ?_
  (try simp only [Act.put, uA12, List.setIfInBounds_toArray, List.set_cons_zero, List.set_cons_succ])
  refine tkU 13 uA13 rfl (by kernel_rfl) (by kernel_rfl) (by kernel_rfl) (fun _ _ _ h => h) (by rfl) (by assumption) ?_
  (try simp only [Act.put, uA13, List.setIfInBounds_toArray, List.set_cons_zero, List.set_cons_succ])
  refine tkU 14 uA14 rfl (by kernel_rfl) (by kernel_rfl) (by kernel_rfl) (fun _ _ _ h => h) (by rfl) (by assumption) ?_
  (try simp only [Act.put, uA14, List.setIfInBounds_toArray, List.set_cons_zero, List.set_cons_succ])
  refine tkU 15 uA15 rfl (by kernel_rfl) (by kernel_rfl) (by kernel_rfl) (fun _ _ _ h => h) (by rfl) (by assumption) ?_
  (try simp only [Act.put, uA15, List.setIfInBounds_toArray, List.set_cons_zero, List.set_cons_succ])
  refine tkU 16 uA16 rfl (by kernel_rfl) (by kernel_rfl) (by kernel_rfl) (fun _ _ _ h => h) (by rfl) (by assumption) ?_
  (try simp only [Act.put, uA16, List.setIfInBounds_toArray, List.set_cons_zero, List.set_cons_succ])
  refine tkU 17 uA17 rfl (by kernel_rfl) (by kernel_rfl) (by kernel_rfl) (fun _ _ _ h => h) (by rfl) (by assumption) ?_
  (try simp only [Act.put, uA17, List.setIfInBounds_toArray, List.set_cons_zero, List.set_cons_succ])
  refine tkU 18 uA18 rfl (by kernel_rfl) (by kernel_rfl) (by kernel_rfl) (fun _ _ _ h => h) (by rfl) (by assumption) ?_
  (try simp only [Act.put, uA18, List.setIfInBounds_toArray, List.set_cons_zero, List.set_cons_succ])
  refine tkU 19 uA19 rfl (by kernel_rfl) (by kernel_rfl) (by kernel_rfl) (fun _ _ _ h => h) (by rfl) (by assumption) ?_
  (try simp only [Act.put, uA19, List.setIfInBounds_toArray, List.set_cons_zero, List.set_cons_succ])
  refine tkU 20 uA20 rfl (by kernel_rfl) (by kernel_rfl) (by kernel_rfl) (fun _ _ _ h => h) (by rfl) (by assumption) ?_
  (try simp only [Act.put, uA20, List.setIfInBounds_toArray, List.set_cons_zero, List.set_cons_succ])
  refine tkU 21 uA21 rfl (by kernel_rfl) (by kernel_rfl) (by kernel_rfl) (fun _ _ _ h => h) (by rfl) (by assumption) ?_
  (try simp only [Act.put, uA21, List.setIfInBounds_toArray, List.set_cons_zero, List.set_cons_succ])
  refine tkU 22 uA22 rfl (by kernel_rfl) (by kernel_rfl) (by kernel_rfl) (fun _ _ _ h => h) (by rfl) (by assumption) ?_
  (try simp only [Act.put, uA22, List.setIfInBounds_toArray, List.set_cons_zero, List.set_cons_succ])
  refine tkU 23 uA23 rfl (by kernel_rfl) (by kernel_rfl) (by kernel_rfl) (fun _ _ _ h => h) (by rfl) (by assumption) ?_
  (try simp only [Act.put, uA23, List.setIfInBounds_toArray, List.set_cons_zero, List.set_cons_succ])
  refine tkU 24 uA24 rfl (by kernel_rfl) (by kernel_rfl) (by kernel_rfl) (fun _ _ _ h => h) (by rfl) (by assumption) ?_
  (try simp only [Act.put, uA24, List.setIfInBounds_toArray, List.set_cons_zero, List.set_cons_succ])
  refine tkU 25 uA25 rfl (by kernel_rfl) (by kernel_rfl) (by kernel_rfl) (fun _ _ _ h => h) (by rfl) (by assumption) ?_
  (try simp only [Act.put, uA25, List.setIfInBounds_toArray, List.set_cons_zero, List.set_cons_succ])
  refine tkU 26 uA26 rfl (by kernel_rfl) (by kernel_rfl) (by kernel_rfl) (fun _ _ _ h => h) (by rfl) (by assumption) ?_
  (try simp only [Act.put, uA26, List.setIfInBounds_toArray, List.set_cons_zero, List.set_cons_succ])
  refine tkU 27 uA27 rfl (by kernel_rfl) (by kernel_rfl) (by kernel_rfl) (fun _ _ _ h => h) (by rfl) (by assumption) ?_
  (try simp only [Act.put, uA27, List.setIfInBounds_toArray, List.set_cons_zero, List.set_cons_succ])
  refine tkU 28 uA28 rfl (by kernel_rfl) (by kernel_rfl) (by kernel_rfl) (fun _ _ _ h => h) (by rfl) (by assumption) ?_
  (try simp only [Act.put, uA28, List.setIfInBounds_toArray, List.set_cons_zero, List.set_cons_succ])
  refine tkW (v := ?_) 29 uA29 rfl (by kernel_rfl) (by kernel_rfl) (by kernel_rfl) (fun _ _ _ h => h) (by rfl) ?_ (by assumption) ?_
  rotate_left
  · intro w hSw; (try dsimp only at hSw); go_simp; (try with_reducible rfl)
  (try simp only [Act.put, uA29, List.setIfInBounds_toArray, List.set_cons_zero, List.set_cons_succ])
  refine tkW (v := ?_) 30 uA30 rfl (by kernel_rfl) (by kernel_rfl) (by kernel_rfl) (fun _ _ _ h => h) (by rfl) ?_ (by assumption) ?_
  rotate_left
  · intro w hSw; (try dsimp only at hSw); go_simp; (try with_reducible rfl)
  (try simp only [Act.put, uA30, List.setIfInBounds_toArray, List.set_cons_zero, List.set_cons_succ])
  refine wpAnyH_done (by kernel_rfl) ?_ _
  obtain ⟨X, hX⟩ : ∃ x, x = V.drew := ⟨_, rfl⟩
  have hBX : X.heap[w.heap.size + 1]? = some (.cells #[.bool false, .int .i64 0, .slice none 0 0, .slice none 0 0] 51 (0, 0)) := by rw [hX]; exact hBV
  have kx : Kp V X := by rw [hX]; exact Kp.drew _
  have KX := Lib.hid kx
  have KWX := Lib.hid (KV.out.trans kx)
  rw [← hX]
  clear hX hBV kx
  obtain ⟨c0, c1, c2, c3, c4, c5, _⟩ := HB.out X KX.out
  have r0 : X.cell? ⟨w.heap.size + 1, 0, none⟩ = some (.bool false) := by simp [World.cell?, hBX]
  have f0 : X.frozen? ⟨w.heap.size + 1, 0, none⟩ = false := by simp [World.frozen?, hBX]
  have r1 : X.cell? ⟨w.heap.size + 1, 1, none⟩ = some (.int .i64 0) := by simp [World.cell?, hBX]
  have f1 : X.frozen? ⟨w.heap.size + 1, 1, none⟩ = false := by simp [World.frozen?, hBX]
  have r2 : X.cell? ⟨w.heap.size + 1, 2, none⟩ = some (.slice none 0 0) := by simp [World.cell?, hBX]
  have f2 : X.frozen? ⟨w.heap.size + 1, 2, none⟩ = false := by simp [World.frozen?, hBX]
  have r3 : X.cell? ⟨w.heap.size + 1, 3, none⟩ = some (.slice none 0 0) := by simp [World.cell?, hBX]
  have f3 : X.frozen? ⟨w.heap.size + 1, 3, none⟩ = false := by simp [World.frozen?, hBX]
  have sx := KWX.out.size
  go_wp2
  have RD0 := set4_read hBX (.bool false) (.int .i64 ug) (.slice (some ⟨ba, oa, none⟩) ag.length cag) (.slice bdg bg.length cbg) (Kp.refl _)
  exact bodyPost_ret (v := .agg #[.bool false, .int .i64 ug, .slice (some ⟨ba, oa, none⟩) ag.length cag, .slice bdg bg.length cbg]) (by simp [results, Tryz.f72, go_sem, RD0]) rfl ⟨_, _, rfl, (OKV.out.kp KX.out).kp4 hBX, set4_below KWX.out (w.heap.size + 1) (by omega) _ _ _ _⟩
set_option maxHeartbeats 16000000 in
set_option maxRecDepth 100000 in
theorem refTidy_3 (spg : Bool) (ug : Int) (ag bg : List R) (iag : I64R ag) (ibg : I64R bg) (f : LF) (va vb : Value) (w : World) (h : LeafOk w f va vb) (hf : asL f = ⟨spg, ug, ag, bg⟩) (h0 : ag.length ≠ 0) (hs : spg = true) (h1 : bg.length = 0) :
    Calls Tryz.prog 72 #[leafV f va vb] w fun e w' => ∃ va' vb', e = .returned (leafV (lf0) va' vb') ∧ LeafOk w' (lf0) va' vb' ∧ Kp w w' := by
  have C := Lib.hid (fun w1 (kk : Kp w w1) => refAs_any f va vb w1 (h.kp kk))
  rw [hf] at C
  clear hf
  obtain ⟨sp, u, a, b⟩ := f
  obtain ⟨ad, ca, rfl⟩ := h.a.slice
  obtain ⟨bd, cb, rfl⟩ := h.b.slice
  simp only [leafV] at C ⊢
  have K0 := Lib.hid ((Kp.alloc w (.cells #[.bool sp, .int .i64 u, .slice ad a.length ca, .slice bd b.length cb] 51)).trans (Kp.alloc _ (.cells #[.bool false, .int .i64 0, .slice none 0 0, .slice none 0 0] 51)))
  clear h
  subst hs
  have q1 : ((bg.length : Int) == 0) = true := by rw [h1]; rfl
  clear h1
  have q0 : ((ag.length : Int) == 0) = false := beq_eq_false_iff_ne.2 (by omega)
  go_enter Tryz.func72, Tryz.ntmps72
  go_wp2_with fail
  refine (C.out _ K0.out).mono ?_
  rintro e w1 ⟨ga, gb, rfl, okg, kk⟩
  have hB := (kk.block (w.heap.size + 1) (by simp)).trans (heap_at (w.alloc _) (.cells #[.bool false, .int .i64 0, .slice none 0 0, .slice none 0 0] 51 (0, 0)) (w.heap.size + 1) (by simp))
  have s1 := kk.size
  simp at s1
  have K1 := Lib.hid (K0.out.trans kk)
  clear kk C
  obtain ⟨ba, oa, cag, ev, x0, x1⟩ := ends_at okg.a (by simp only; omega)
  subst ev
  obtain ⟨bdg, cbg, rfl⟩ := okg.b.slice
  have na := okg.na
  have nb := okg.nb
  simp only at na nb x0 x1
  obtain ⟨V, hV⟩ : ∃ x, x = w1.alloc (.cells #[.bool true, .int .i64 ug, .slice (some ⟨ba, oa, none⟩) ag.length cag, .slice bdg bg.length cbg] 51) := ⟨_, rfl⟩
  have ka : Kp w1 V := by rw [hV]; exact Kp.alloc _ _
  have hgq : V.heap[w1.heap.size]? = some (.cells #[.bool true, .int .i64 ug, .slice (some ⟨ba, oa, none⟩) ag.length cag, .slice bdg bg.length cbg] 51 (0, 0)) := by rw [hV]; exact heap_at _ _ _ rfl
  have g0 : V.cell? ⟨w1.heap.size, 0, none⟩ = some (.bool true) := by simp [World.cell?, hgq]
  have g1 : V.cell? ⟨w1.heap.size, 1, none⟩ = some (.int .i64 ug) := by simp [World.cell?, hgq]
  have g2 : V.cell? ⟨w1.heap.size, 2, none⟩ = some (.slice (some ⟨ba, oa, none⟩) ag.length cag) := by simp [World.cell?, hgq]
  have g3 : V.cell? ⟨w1.heap.size, 3, none⟩ = some (.slice bdg bg.length cbg) := by simp [World.cell?, hgq]
  have HB := Lib.hid (fun w' (k : Kp V w') => show w'.cell? ⟨w1.heap.size, 0, none⟩ = some (.bool true) ∧ w'.cell? ⟨w1.heap.size, 1, none⟩ = some (.int .i64 ug) ∧ w'.cell? ⟨w1.heap.size, 2, none⟩ = some (.slice (some ⟨ba, oa, none⟩) ag.length cag) ∧ w'.cell? ⟨w1.heap.size, 3, none⟩ = some (.slice bdg bg.length cbg) ∧ w'.cell? ⟨ba, oa, none⟩ = some (.int .i64 (leastR ag)) ∧ w'.cell? ⟨ba, oa + (ag.length - 1) * 2 + 1, none⟩ = some (.int .i64 (greatR ag)) ∧ Kp V w' from ⟨cell_up k g0, cell_up k g1, cell_up k g2, cell_up k g3, cell_up (ka.trans k) x0, cell_up (ka.trans k) x1, k⟩)
  have hBV := heap_block ka hB
  have KV := Lib.hid (K1.out.trans ka)
  have HV := Lib.hid hV
  have OKV := Lib.hid (okg.kp ka)
  have wz : 0 < ag.length := by omega
  clear hV ka hgq g0 g1 g2 g3 x0 x1 hB okg
  go_wp2_with fail
  rw [← HV.out]
  refine wp_region_held_drew (S := fun w' => w'.cell? ⟨w1.heap.size, 0, none⟩ = some (.bool true) ∧ w'.cell? ⟨w1.heap.size, 1, none⟩ = some (.int .i64 ug) ∧ w'.cell? ⟨w1.heap.size, 2, none⟩ = some (.slice (some ⟨ba, oa, none⟩) ag.length cag) ∧ w'.cell? ⟨w1.heap.size, 3, none⟩ = some (.slice bdg bg.length cbg) ∧ w'.cell? ⟨ba, oa, none⟩ = some (.int .i64 (leastR ag)) ∧ w'.cell? ⟨ba, oa + (ag.length - 1) * 2 + 1, none⟩ = some (.int .i64 (greatR ag)) ∧ Kp V w') (by kernel_rfl) ?_ (fun hHeld0 => ?_)
  · (try dsimp only); exact HB.out _ (by first | assumption | exact Kp.drew _)
  refine tkW (v := ?_) 0 uA0 rfl (by kernel_rfl) (by kernel_rfl) (by kernel_rfl) (fun _ _ _ h => h) (by rfl) ?_ (by assumption) ?_
  rotate_left
  · intro w hSw; (try dsimp only at hSw); go_simp; (try with_reducible rfl)
  (try simp only [Act.put, uA0, List.setIfInBounds_toArray, List.set_cons_zero, List.set_cons_succ])
  refine tkW (v := ?_) 1 uA1 rfl (by kernel_rfl) (by kernel_rfl) (by kernel_rfl) (fun _ _ _ h => h) (by rfl) ?_ (by assumption) ?_
  rotate_left
  · intro w hSw; (try dsimp only at hSw); go_simp; (try with_reducible rfl)
  (try simp only [Act.put, uA1, List.setIfInBounds_toArray, List.set_cons_zero, List.set_cons_succ])
  refine tkW (v := ?_) 2 uA2 rfl (by kernel_rfl) (by kernel_rfl) (by kernel_rfl) (fun _ _ _ h => h) (by rfl) ?_ (by assumption) ?_
  rotate_left
  · intro w hSw; (try dsimp only at hSw); go_simp; (try with_reducible rfl)
  (try simp only [Act.put, uA2, List.setIfInBounds_toArray, List.set_cons_zero, List.set_cons_succ])
  refine tkW (v := ?_) 3 uA3 rfl (by kernel_rfl) (by kernel_rfl) (by kernel_rfl) (fun _ _ _ h => h) (by rfl) ?_ (by assumption) ?_
  rotate_left
  · intro w hSw; (try dsimp only at hSw); go_simp; (try with_reducible rfl)
  (try simp only [Act.put, uA3, List.setIfInBounds_toArray, List.set_cons_zero, List.set_cons_succ])
  refine tkW (v := ?_) 4 uA4 rfl (by kernel_rfl) (by kernel_rfl) (by kernel_rfl) (fun _ _ _ h => h) (by rfl) ?_ (by assumption) ?_
  rotate_left
  · intro w hSw; (try dsimp only at hSw); go_simp; (try with_reducible rfl)
  (try simp only [Act.put, uA4, List.setIfInBounds_toArray, List.set_cons_zero, List.set_cons_succ])
  refine tkW (v := ?_) 5 uA5 rfl (by kernel_rfl) (by kernel_rfl) (by kernel_rfl) (fun _ _ _ h => h) (by rfl) ?_ (by assumption) ?_
  rotate_left
  · intro w hSw; (try dsimp only at hSw); go_simp; (try with_reducible rfl)
  (try simp only [Act.put, uA5, List.setIfInBounds_toArray, List.set_cons_zero, List.set_cons_succ])
  refine tkW (v := ?_) 6 uA6 rfl (by kernel_rfl) (by kernel_rfl) (by kernel_rfl) (fun _ _ _ h => h) (by rfl) ?_ (by assumption) ?_
  rotate_left
  · intro w hSw; (try dsimp only at hSw); go_simp; (try with_reducible rfl)
  (try simp only [Act.put, uA6, List.setIfInBounds_toArray, List.set_cons_zero, List.set_cons_succ])
  refine tkW (v := ?_) 7 uA7 rfl (by kernel_rfl) (by kernel_rfl) (by kernel_rfl) (fun _ _ _ h => h) (by rfl) ?_ (by assumption) ?_
  rotate_left
  · intro w hSw; (try dsimp only at hSw); go_simp; (try with_reducible rfl)
  (try simp only [Act.put, uA7, List.setIfInBounds_toArray, List.set_cons_zero, List.set_cons_succ])
  refine tkW (v := ?_) 8 uA8 rfl (by kernel_rfl) (by kernel_rfl) (by kernel_rfl) (fun _ _ _ h => h) (by rfl) ?_ (by assumption) ?_
  rotate_left
  · intro w hSw; (try dsimp only at hSw); go_simp; (try with_reducible rfl)
  (try simp only [Act.put, uA8, List.setIfInBounds_toArray, List.set_cons_zero, List.set_cons_succ])
  refine tkW (v := ?_) 9 uA9 rfl (by kernel_rfl) (by kernel_rfl) (by kernel_rfl) (fun _ _ _ h => h) (by rfl) ?_ (by assumption) ?_
  rotate_left
  · intro w hSw; (try dsimp only at hSw); go_simp; (try with_reducible rfl)
  (try simp only [Act.put, uA9, List.setIfInBounds_toArray, List.set_cons_zero, List.set_cons_succ])
  refine tkW (v := ?_) 10 uA10 rfl (by kernel_rfl) (by kernel_rfl) (by kernel_rfl) (fun _ _ _ h => h) (by rfl) ?_ (by assumption) ?_
  rotate_left
  · intro w hSw; (try dsimp only at hSw); go_simp; (try with_reducible rfl)
  (try simp only [Act.put, uA10, List.setIfInBounds_toArray, List.set_cons_zero, List.set_cons_succ])
  refine tkW (v := ?_) 11 uA11 rfl (by kernel_rfl) (by kernel_rfl) (by kernel_rfl) (fun _ _ _ h => h) (by rfl) ?_ (by assumption) ?_
  rotate_left
  · intro w hSw; (try dsimp only at hSw); go_simp; (try with_reducible rfl)
  (try simp only [Act.put, uA11, List.setIfInBounds_toArray, List.set_cons_zero, List.set_cons_succ])
  refine tkW (v := ?_) 12 uA12 rfl (by kernel_rfl) (by kernel_rfl) (by kernel_rfl) (fun _ _ _ h => h) (by rfl) ?_ (by assumption) ?_
  rotate_left
  · intro w hSw; (try dsimp only at hSw); go_simp; (try with_reducible rfl)
  (try simp only [Act.put, uA12, List.setIfInBounds_toArray, List.set_cons_zero, List.set_cons_succ])
  refine tkU 13 uA13 rfl (by kernel_rfl) (by kernel_rfl) (by kernel_rfl) (fun _ _ _ h => h) (by rfl) (by assumption) ?_
  (try simp only [Act.put, uA13, List.setIfInBounds_toArray, List.set_cons_zero, List.set_cons_succ])
  refine tkU 14 uA14 rfl (by kernel_rfl) (by kernel_rfl) (by kernel_rfl) (fun _ _ _ h => h) (by rfl) (by assumption) ?_
  (try simp only [Act.put, uA14, List.setIfInBounds_toArray, List.set_cons_zero, List.set_cons_succ])
  refine tkU 15 uA15 rfl (by kernel_rfl) (by kernel_rfl) (by kernel_rfl) (fun _ _ _ h => h) (by rfl) (by assumption) ?_
  (try simp only [Act.put, uA15, List.setIfInBounds_toArray, List.set_cons_zero, List.set_cons_succ])
  refine tkU 16 uA16 rfl (by kernel_rfl) (by kernel_rfl) (by kernel_rfl) (fun _ _ _ h => h) (by rfl) (by assumption) ?_
  (try simp only [Act.put, uA16, List.setIfInBounds_toArray, List.set_cons_zero, List.set_cons_succ])
  refine tkU 17 uA17 rfl (by kernel_rfl) (by kernel_rfl) (by kernel_rfl) (fun _ _ _ h => h) (by rfl) (by assumption) ?_
  (try simp only [Act.put, uA17, List.setIfInBounds_toArray, List.set_cons_zero, List.set_cons_succ])
  refine tkU 18 uA18 rfl (by kernel_rfl) (by kernel_rfl) (by kernel_rfl) (fun _ _ _ h => h) (by rfl) (by assumption) ?_
  (try simp only [Act.put, uA18, List.setIfInBounds_toArray, List.set_cons_zero, List.set_cons_succ])
  refine tkU 19 uA19 rfl (by kernel_rfl) (by kernel_rfl) (by kernel_rfl) (fun _ _ _ h => h) (by rfl) (by assumption) ?_
  (try simp only [Act.put, uA19, List.setIfInBounds_toArray, List.set_cons_zero, List.set_cons_succ])
  refine tkU 20 uA20 rfl (by kernel_rfl) (by kernel_rfl) (by kernel_rfl) (fun _ _ _ h => h) (by rfl) (by assumption) ?_
  (try simp only [Act.put, uA20, List.setIfInBounds_toArray, List.set_cons_zero, List.set_cons_succ])
  refine tkU 21 uA21 rfl (by kernel_rfl) (by kernel_rfl) (by kernel_rfl) (fun _ _ _ h => h) (by rfl) (by assumption) ?_
  (try simp only [Act.put, uA21, List.setIfInBounds_toArray, List.set_cons_zero, List.set_cons_succ])
  refine tkU 22 uA22 rfl (by kernel_rfl) (by kernel_rfl) (by kernel_rfl) (fun _ _ _ h => h) (by rfl) (by assumption) ?_
  (try simp only [Act.put, uA22, List.setIfInBounds_toArray, List.set_cons_zero, List.set_cons_succ])
  refine tkU 23 uA23 rfl (by kernel_rfl) (by kernel_rfl) (by kernel_rfl) (fun _ _ _ h => h) (by rfl) (by assumption) ?_
  (try simp only [Act.put, uA23, List.setIfInBounds_toArray, List.set_cons_zero, List.set_cons_succ])
  refine tkU 24 uA24 rfl (by kernel_rfl) (by kernel_rfl) (by kernel_rfl) (fun _ _ _ h => h) (by rfl) (by assumption) ?_
  (try simp only [Act.put, uA24, List.setIfInBounds_toArray, List.set_cons_zero, List.set_cons_succ])
  refine tkU 25 uA25 rfl (by kernel_rfl) (by kernel_rfl) (by kernel_rfl) (fun _ _ _ h => h) (by rfl) (by assumption) ?_
  (try simp only [Act.put, uA25, List.setIfInBounds_toArray, List.set_cons_zero, List.set_cons_succ])
  refine tkU 26 uA26 rfl (by kernel_rfl) (by kernel_rfl) (by kernel_rfl) (fun _ _ _ h => h) (by rfl) (by assumption) ?_
  (try simp only [Act.put, uA26, List.setIfInBounds_toArray, List.set_cons_zero, List.set_cons_succ])
  refine tkU 27 uA27 rfl (by kernel_rfl) (by kernel_rfl) (by kernel_rfl) (fun _ _ _ h => h) (by rfl) (by assumption) ?_
  (try simp only [Act.put, uA27, List.setIfInBounds_toArray, List.set_cons_zero, List.set_cons_succ])
  refine tkW (v := ?_) 28 uA28 rfl (by kernel_rfl) (by kernel_rfl) (by kernel_rfl) (fun _ _ _ h => h) (by rfl) ?_ (by assumption) ?_
  rotate_left
  · intro w hSw; (try dsimp only at hSw); go_simp; (try with_reducible rfl)
  (try simp only [Act.put, uA28, List.setIfInBounds_toArray, List.set_cons_zero, List.set_cons_succ])
  refine tkW (v := ?_) 29 uA29 rfl (by kernel_rfl) (by kernel_rfl) (by kernel_rfl) (fun _ _ _ h => h) (by rfl) ?_ (by assumption) ?_
  rotate_left
  · intro w hSw; (try dsimp only at hSw); go_simp; (try with_reducible rfl)
  (try simp only [Act.put, uA29, List.setIfInBounds_toArray, List.set_cons_zero, List.set_cons_succ])
  refine tkW (v := ?_) 30 uA30 rfl (by kernel_rfl) (by kernel_rfl) (by kernel_rfl) (fun _ _ _ h => h) (by rfl) ?_ (by assumption) ?_
  rotate_left
  · intro w hSw; (try dsimp only at hSw); go_simp; (try with_reducible rfl)
  (try simp only [Act.put, uA30, List.setIfInBounds_toArray, List.set_cons_zero, List.set_cons_succ])
  refine wpAnyH_done (by kernel_rfl) ?_ _
  obtain ⟨X, hX⟩ : ∃ x, x = V.drew := ⟨_, rfl⟩
  have hBX : X.heap[w.heap.size + 1]? = some (.cells #[.bool false, .int .i64 0, .slice none 0 0, .slice none 0 0] 51 (0, 0)) := by rw [hX]; exact hBV
  have kx : Kp V X := by rw [hX]; exact Kp.drew _
  have KX := Lib.hid kx
  have KWX := Lib.hid (KV.out.trans kx)
  rw [← hX]
  clear hX hBV kx
  obtain ⟨c0, c1, c2, c3, c4, c5, _⟩ := HB.out X KX.out
  have r0 : X.cell? ⟨w.heap.size + 1, 0, none⟩ = some (.bool false) := by simp [World.cell?, hBX]
  have f0 : X.frozen? ⟨w.heap.size + 1, 0, none⟩ = false := by simp [World.frozen?, hBX]
  have r1 : X.cell? ⟨w.heap.size + 1, 1, none⟩ = some (.int .i64 0) := by simp [World.cell?, hBX]
  have f1 : X.frozen? ⟨w.heap.size + 1, 1, none⟩ = false := by simp [World.frozen?, hBX]
  have r2 : X.cell? ⟨w.heap.size + 1, 2, none⟩ = some (.slice none 0 0) := by simp [World.cell?, hBX]
  have f2 : X.frozen? ⟨w.heap.size + 1, 2, none⟩ = false := by simp [World.frozen?, hBX]
  have r3 : X.cell? ⟨w.heap.size + 1, 3, none⟩ = some (.slice none 0 0) := by simp [World.cell?, hBX]
  have f3 : X.frozen? ⟨w.heap.size + 1, 3, none⟩ = false := by simp [World.frozen?, hBX]
  have sx := KWX.out.size
  go_wp2
  have RD0 := set4_read hBX (.bool false) (.int .i64 0) (.slice none 0 0) (.slice none 0 0) (Kp.refl _)
  exact bodyPost_ret (v := .agg #[.bool false, .int .i64 0, .slice none 0 0, .slice none 0 0]) (by simp [results, Tryz.f72, go_sem, RD0]) rfl ⟨.slice none 0 0, .slice none 0 0, rfl, lf0_ok _, set4_below KWX.out (w.heap.size + 1) (by omega) _ _ _ _⟩
set_option maxHeartbeats 16000000 in
set_option maxRecDepth 100000 in
theorem refTidy_4 (spg : Bool) (ug : Int) (ag bg : List R) (iag : I64R ag) (ibg : I64R bg) (f : LF) (va vb : Value) (w : World) (h : LeafOk w f va vb) (hf : asL f = ⟨spg, ug, ag, bg⟩) (h0 : ag.length ≠ 0) (hs : spg = true) (h1 : bg.length ≠ 0) (hg : greatR bg < leastR ag) :
    Calls Tryz.prog 72 #[leafV f va vb] w fun e w' => ∃ va' vb', e = .returned (leafV (lf0) va' vb') ∧ LeafOk w' (lf0) va' vb' ∧ Kp w w' := by
  have C := Lib.hid (fun w1 (kk : Kp w w1) => refAs_any f va vb w1 (h.kp kk))
  rw [hf] at C
  clear hf
  obtain ⟨sp, u, a, b⟩ := f
  obtain ⟨ad, ca, rfl⟩ := h.a.slice
  obtain ⟨bd, cb, rfl⟩ := h.b.slice
  simp only [leafV] at C ⊢
  have K0 := Lib.hid ((Kp.alloc w (.cells #[.bool sp, .int .i64 u, .slice ad a.length ca, .slice bd b.length cb] 51)).trans (Kp.alloc _ (.cells #[.bool false, .int .i64 0, .slice none 0 0, .slice none 0 0] 51)))
  clear h
  subst hs
  have q1 : ((bg.length : Int) == 0) = false := beq_eq_false_iff_ne.2 (by omega)
  have q2 : decide (greatR bg < leastR ag) = true := decide_eq_true hg
  have q0 : ((ag.length : Int) == 0) = false := beq_eq_false_iff_ne.2 (by omega)
  go_enter Tryz.func72, Tryz.ntmps72
  go_wp2_with fail
  refine (C.out _ K0.out).mono ?_
  rintro e w1 ⟨ga, gb, rfl, okg, kk⟩
  have hB := (kk.block (w.heap.size + 1) (by simp)).trans (heap_at (w.alloc _) (.cells #[.bool false, .int .i64 0, .slice none 0 0, .slice none 0 0] 51 (0, 0)) (w.heap.size + 1) (by simp))
  have s1 := kk.size
  simp at s1
  have K1 := Lib.hid (K0.out.trans kk)
  clear kk C
  obtain ⟨ba, oa, cag, ev, x0, x1⟩ := ends_at okg.a (by simp only; omega)
  subst ev
  obtain ⟨bb, ob, cbg, ev, y0, y1⟩ := ends_at okg.b (by simp only; omega)
  subst ev
  have na := okg.na
  have nb := okg.nb
  simp only at na nb x0 x1 y0 y1
  obtain ⟨V, hV⟩ : ∃ x, x = w1.alloc (.cells #[.bool true, .int .i64 ug, .slice (some ⟨ba, oa, none⟩) ag.length cag, .slice (some ⟨bb, ob, none⟩) bg.length cbg] 51) := ⟨_, rfl⟩
  have ka : Kp w1 V := by rw [hV]; exact Kp.alloc _ _
  have hgq : V.heap[w1.heap.size]? = some (.cells #[.bool true, .int .i64 ug, .slice (some ⟨ba, oa, none⟩) ag.length cag, .slice (some ⟨bb, ob, none⟩) bg.length cbg] 51 (0, 0)) := by rw [hV]; exact heap_at _ _ _ rfl
  have g0 : V.cell? ⟨w1.heap.size, 0, none⟩ = some (.bool true) := by simp [World.cell?, hgq]
  have g1 : V.cell? ⟨w1.heap.size, 1, none⟩ = some (.int .i64 ug) := by simp [World.cell?, hgq]
  have g2 : V.cell? ⟨w1.heap.size, 2, none⟩ = some (.slice (some ⟨ba, oa, none⟩) ag.length cag) := by simp [World.cell?, hgq]
  have g3 : V.cell? ⟨w1.heap.size, 3, none⟩ = some (.slice (some ⟨bb, ob, none⟩) bg.length cbg) := by simp [World.cell?, hgq]
  have HB := Lib.hid (fun w' (k : Kp V w') => show w'.cell? ⟨w1.heap.size, 0, none⟩ = some (.bool true) ∧ w'.cell? ⟨w1.heap.size, 1, none⟩ = some (.int .i64 ug) ∧ w'.cell? ⟨w1.heap.size, 2, none⟩ = some (.slice (some ⟨ba, oa, none⟩) ag.length cag) ∧ w'.cell? ⟨w1.heap.size, 3, none⟩ = some (.slice (some ⟨bb, ob, none⟩) bg.length cbg) ∧ w'.cell? ⟨ba, oa, none⟩ = some (.int .i64 (leastR ag)) ∧ w'.cell? ⟨ba, oa + (ag.length - 1) * 2 + 1, none⟩ = some (.int .i64 (greatR ag)) ∧ w'.cell? ⟨bb, ob, none⟩ = some (.int .i64 (leastR bg)) ∧ w'.cell? ⟨bb, ob + (bg.length - 1) * 2 + 1, none⟩ = some (.int .i64 (greatR bg)) ∧ Kp V w' from ⟨cell_up k g0, cell_up k g1, cell_up k g2, cell_up k g3, cell_up (ka.trans k) x0, cell_up (ka.trans k) x1, cell_up (ka.trans k) y0, cell_up (ka.trans k) y1, k⟩)
  have hBV := heap_block ka hB
  have KV := Lib.hid (K1.out.trans ka)
  have HV := Lib.hid hV
  have OKV := Lib.hid (okg.kp ka)
  have wt : (bg.length : Int) - 1 = ((bg.length - 1 : Nat) : Int) := by omega
  have wu : IntKind.i64.wrap ((bg.length - 1 : Nat) : Int) = ((bg.length - 1 : Nat) : Int) := IntWalk.i64_in _ (by omega)
  have wx : bg.length - 1 < bg.length := by omega
  have wy : ((bg.length - 1 : Nat) : Int) < (bg.length : Int) := by omega
  have wv : (0 : Int) ≤ ((bg.length - 1 : Nat) : Int) := by omega
  have wz : 0 < ag.length := by omega
  clear hV ka hgq g0 g1 g2 g3 x0 x1 y0 y1 hB okg
  go_wp2_with fail
  rw [← HV.out]
  refine wp_region_held_drew (S := fun w' => w'.cell? ⟨w1.heap.size, 0, none⟩ = some (.bool true) ∧ w'.cell? ⟨w1.heap.size, 1, none⟩ = some (.int .i64 ug) ∧ w'.cell? ⟨w1.heap.size, 2, none⟩ = some (.slice (some ⟨ba, oa, none⟩) ag.length cag) ∧ w'.cell? ⟨w1.heap.size, 3, none⟩ = some (.slice (some ⟨bb, ob, none⟩) bg.length cbg) ∧ w'.cell? ⟨ba, oa, none⟩ = some (.int .i64 (leastR ag)) ∧ w'.cell? ⟨ba, oa + (ag.length - 1) * 2 + 1, none⟩ = some (.int .i64 (greatR ag)) ∧ w'.cell? ⟨bb, ob, none⟩ = some (.int .i64 (leastR bg)) ∧ w'.cell? ⟨bb, ob + (bg.length - 1) * 2 + 1, none⟩ = some (.int .i64 (greatR bg)) ∧ Kp V w') (by kernel_rfl) ?_ (fun hHeld0 => ?_)
  · (try dsimp only); exact HB.out _ (by first | assumption | exact Kp.drew _)
  refine tkW (v := ?_) 0 uA0 rfl (by kernel_rfl) (by kernel_rfl) (by kernel_rfl) (fun _ _ _ h => h) (by rfl) ?_ (by assumption) ?_
  rotate_left
  · intro w hSw; (try dsimp only at hSw); go_simp; (try with_reducible rfl)
  (try simp only [Act.put, uA0, List.setIfInBounds_toArray, List.set_cons_zero, List.set_cons_succ])
  refine tkW (v := ?_) 1 uA1 rfl (by kernel_rfl) (by kernel_rfl) (by kernel_rfl) (fun _ _ _ h => h) (by rfl) ?_ (by assumption) ?_
  rotate_left
  · intro w hSw; (try dsimp only at hSw); go_simp; (try with_reducible rfl)
  (try simp only [Act.put, uA1, List.setIfInBounds_toArray, List.set_cons_zero, List.set_cons_succ])
  refine tkW (v := ?_) 2 uA2 rfl (by kernel_rfl) (by kernel_rfl) (by kernel_rfl) (fun _ _ _ h => h) (by rfl) ?_ (by assumption) ?_
  rotate_left
  · intro w hSw; (try dsimp only at hSw); go_simp; (try with_reducible rfl)
  (try simp only [Act.put, uA2, List.setIfInBounds_toArray, List.set_cons_zero, List.set_cons_succ])
  refine tkW (v := ?_) 3 uA3 rfl (by kernel_rfl) (by kernel_rfl) (by kernel_rfl) (fun _ _ _ h => h) (by rfl) ?_ (by assumption) ?_
  rotate_left
  · intro w hSw; (try dsimp only at hSw); go_simp; (try with_reducible rfl)
  (try simp only [Act.put, uA3, List.setIfInBounds_toArray, List.set_cons_zero, List.set_cons_succ])
  refine tkW (v := ?_) 4 uA4 rfl (by kernel_rfl) (by kernel_rfl) (by kernel_rfl) (fun _ _ _ h => h) (by rfl) ?_ (by assumption) ?_
  rotate_left
  · intro w hSw; (try dsimp only at hSw); go_simp; (try with_reducible rfl)
  (try simp only [Act.put, uA4, List.setIfInBounds_toArray, List.set_cons_zero, List.set_cons_succ])
  refine tkW (v := ?_) 5 uA5 rfl (by kernel_rfl) (by kernel_rfl) (by kernel_rfl) (fun _ _ _ h => h) (by rfl) ?_ (by assumption) ?_
  rotate_left
  · intro w hSw; (try dsimp only at hSw); go_simp; (try with_reducible rfl)
  (try simp only [Act.put, uA5, List.setIfInBounds_toArray, List.set_cons_zero, List.set_cons_succ])
  refine tkW (v := ?_) 6 uA6 rfl (by kernel_rfl) (by kernel_rfl) (by kernel_rfl) (fun _ _ _ h => h) (by rfl) ?_ (by assumption) ?_
  rotate_left
  · intro w hSw; (try dsimp only at hSw); go_simp; (try with_reducible rfl)
  (try simp only [Act.put, uA6, List.setIfInBounds_toArray, List.set_cons_zero, List.set_cons_succ])
  refine tkW (v := ?_) 7 uA7 rfl (by kernel_rfl) (by kernel_rfl) (by kernel_rfl) (fun _ _ _ h => h) (by rfl) ?_ (by assumption) ?_
  rotate_left
  · intro w hSw; (try dsimp only at hSw); go_simp; (try with_reducible rfl)
  (try simp only [Act.put, uA7, List.setIfInBounds_toArray, List.set_cons_zero, List.set_cons_succ])
  refine tkW (v := ?_) 8 uA8 rfl (by kernel_rfl) (by kernel_rfl) (by kernel_rfl) (fun _ _ _ h => h) (by rfl) ?_ (by assumption) ?_
  rotate_left
  · intro w hSw; (try dsimp only at hSw); go_simp; (try with_reducible rfl)
  (try simp only [Act.put, uA8, List.setIfInBounds_toArray, List.set_cons_zero, List.set_cons_succ])
  refine tkW (v := ?_) 9 uA9 rfl (by kernel_rfl) (by kernel_rfl) (by kernel_rfl) (fun _ _ _ h => h) (by rfl) ?_ (by assumption) ?_
  rotate_left
  · intro w hSw; (try dsimp only at hSw); go_simp; (try with_reducible rfl)
  (try simp only [Act.put, uA9, List.setIfInBounds_toArray, List.set_cons_zero, List.set_cons_succ])
  refine tkW (v := ?_) 10 uA10 rfl (by kernel_rfl) (by kernel_rfl) (by kernel_rfl) (fun _ _ _ h => h) (by rfl) ?_ (by assumption) ?_
  rotate_left
  · intro w hSw; (try dsimp only at hSw); go_simp; (try with_reducible rfl)
  (try simp only [Act.put, uA10, List.setIfInBounds_toArray, List.set_cons_zero, List.set_cons_succ])
  refine tkW (v := ?_) 11 uA11 rfl (by kernel_rfl) (by kernel_rfl) (by kernel_rfl) (fun _ _ _ h => h) (by rfl) ?_ (by assumption) ?_
  rotate_left
  · intro w hSw; (try dsimp only at hSw); go_simp; (try with_reducible rfl)
  (try simp only [Act.put, uA11, List.setIfInBounds_toArray, List.set_cons_zero, List.set_cons_succ])
  refine tkW (v := ?_) 12 uA12 rfl (by kernel_rfl) (by kernel_rfl) (by kernel_rfl) (fun _ _ _ h => h) (by rfl) ?_ (by assumption) ?_
  rotate_left
  · intro w hSw; (try dsimp only at hSw); go_simp; (try with_reducible rfl)
  (try simp only [Act.put, uA12, List.setIfInBounds_toArray, List.set_cons_zero, List.set_cons_succ])
  refine tkW (v := ?_) 13 uA13 rfl (by kernel_rfl) (by kernel_rfl) (by kernel_rfl) (fun _ _ _ h => h) (by rfl) ?_ (by assumption) ?_
  rotate_left
  · intro w hSw; (try dsimp only at hSw); go_simp; (try with_reducible rfl)
  (try simp only [Act.put, uA13, List.setIfInBounds_toArray, List.set_cons_zero, List.set_cons_succ])
  refine tkW (v := ?_) 14 uA14 rfl (by kernel_rfl) (by kernel_rfl) (by kernel_rfl) (fun _ _ _ h => h) (by rfl) ?_ (by assumption) ?_
  rotate_left
  · intro w hSw; (try dsimp only at hSw); go_simp; (try with_reducible rfl)
  (try simp only [Act.put, uA14, List.setIfInBounds_toArray, List.set_cons_zero, List.set_cons_succ])
  refine tkW (v := ?_) 15 uA15 rfl (by kernel_rfl) (by kernel_rfl) (by kernel_rfl) (fun _ _ _ h => h) (by rfl) ?_ (by assumption) ?_
  rotate_left
  · intro w hSw; (try dsimp only at hSw); go_simp; (try with_reducible rfl)
  (try simp only [Act.put, uA15, List.setIfInBounds_toArray, List.set_cons_zero, List.set_cons_succ])
  refine tkW (v := ?_) 16 uA16 rfl (by kernel_rfl) (by kernel_rfl) (by kernel_rfl) (fun _ _ _ h => h) (by rfl) ?_ (by assumption) ?_
  rotate_left
  · intro w hSw; (try dsimp only at hSw); go_simp; (try with_reducible rfl)
  (try simp only [Act.put, uA16, List.setIfInBounds_toArray, List.set_cons_zero, List.set_cons_succ])
  refine tkW (v := ?_) 17 uA17 rfl (by kernel_rfl) (by kernel_rfl) (by kernel_rfl) (fun _ _ _ h => h) (by rfl) ?_ (by assumption) ?_
  rotate_left
  · intro w hSw; (try dsimp only at hSw); go_simp; (try with_reducible rfl)
  (try simp only [Act.put, uA17, List.setIfInBounds_toArray, List.set_cons_zero, List.set_cons_succ])
  refine tkW (v := ?_) 18 uA18 rfl (by kernel_rfl) (by kernel_rfl) (by kernel_rfl) (fun _ _ _ h => h) (by rfl) ?_ (by assumption) ?_
  rotate_left
  · intro w hSw; (try dsimp only at hSw); go_simp; (try with_reducible rfl)
  (try simp only [Act.put, uA18, List.setIfInBounds_toArray, List.set_cons_zero, List.set_cons_succ])
  refine tkW (v := ?_) 19 uA19 rfl (by kernel_rfl) (by kernel_rfl) (by kernel_rfl) (fun _ _ _ h => h) (by rfl) ?_ (by assumption) ?_
  rotate_left
  · intro w hSw; (try dsimp only at hSw); go_simp; (try with_reducible rfl)
  (try simp only [Act.put, uA19, List.setIfInBounds_toArray, List.set_cons_zero, List.set_cons_succ])
  refine tkW (v := ?_) 20 uA20 rfl (by kernel_rfl) (by kernel_rfl) (by kernel_rfl) (fun _ _ _ h => h) (by rfl) ?_ (by assumption) ?_
  rotate_left
  · intro w hSw; (try dsimp only at hSw); go_simp; (try with_reducible rfl)
  (try simp only [Act.put, uA20, List.setIfInBounds_toArray, List.set_cons_zero, List.set_cons_succ])
  refine tkW (v := ?_) 21 uA21 rfl (by kernel_rfl) (by kernel_rfl) (by kernel_rfl) (fun _ _ _ h => h) (by rfl) ?_ (by assumption) ?_
  rotate_left
  · intro w hSw; (try dsimp only at hSw); go_simp; (try with_reducible rfl)
  (try simp only [Act.put, uA21, List.setIfInBounds_toArray, List.set_cons_zero, List.set_cons_succ])
  refine tkW (v := ?_) 22 uA22 rfl (by kernel_rfl) (by kernel_rfl) (by kernel_rfl) (fun _ _ _ h => h) (by rfl) ?_ (by assumption) ?_
  rotate_left
  · intro w hSw; (try dsimp only at hSw); go_simp; (try with_reducible rfl)
  (try simp only [Act.put, uA22, List.setIfInBounds_toArray, List.set_cons_zero, List.set_cons_succ])
  refine tkW (v := ?_) 23 uA23 rfl (by kernel_rfl) (by kernel_rfl) (by kernel_rfl) (fun _ _ _ h => h) (by rfl) ?_ (by assumption) ?_
  rotate_left
  · intro w hSw; (try dsimp only at hSw); go_simp; (try with_reducible rfl)
  (try simp only [Act.put, uA23, List.setIfInBounds_toArray, List.set_cons_zero, List.set_cons_succ])
  refine tkW (v := ?_) 24 uA24 rfl (by kernel_rfl) (by kernel_rfl) (by kernel_rfl) (fun _ _ _ h => h) (by rfl) ?_ (by assumption) ?_
  rotate_left
  · intro w hSw; (try dsimp only at hSw); go_simp; (try with_reducible rfl)
  (try simp only [Act.put, uA24, List.setIfInBounds_toArray, List.set_cons_zero, List.set_cons_succ])
  refine tkW (v := ?_) 25 uA25 rfl (by kernel_rfl) (by kernel_rfl) (by kernel_rfl) (fun _ _ _ h => h) (by rfl) ?_ (by assumption) ?_
  rotate_left
  · intro w hSw; (try dsimp only at hSw); go_simp; (try with_reducible rfl)
  (try simp only [Act.put, uA25, List.setIfInBounds_toArray, List.set_cons_zero, List.set_cons_succ])
  refine tkW (v := ?_) 26 uA26 rfl (by kernel_rfl) (by kernel_rfl) (by kernel_rfl) (fun _ _ _ h => h) (by rfl) ?_ (by assumption) ?_
  rotate_left
  · intro w hSw; (try dsimp only at hSw); go_simp; (try with_reducible rfl)
  (try simp only [Act.put, uA26, List.setIfInBounds_toArray, List.set_cons_zero, List.set_cons_succ])
  refine tkW (v := ?_) 27 uA27 rfl (by kernel_rfl) (by kernel_rfl) (by kernel_rfl) (fun _ _ _ h => h) (by rfl) ?_ (by assumption) ?_
  rotate_left
  · intro w hSw; (try dsimp only at hSw); go_simp; (try with_reducible rfl)
  (try simp only [Act.put, uA27, List.setIfInBounds_toArray, List.set_cons_zero, List.set_cons_succ])
  refine tkW (v := ?_) 28 uA28 rfl (by kernel_rfl) (by kernel_rfl) (by kernel_rfl) (fun _ _ _ h => h) (by rfl) ?_ (by assumption) ?_
  rotate_left
  · intro w hSw; (try dsimp only at hSw); go_simp; (try with_reducible rfl)
  (try simp only [Act.put, uA28, List.setIfInBounds_toArray, List.set_cons_zero, List.set_cons_succ])
  refine tkW (v := ?_) 29 uA29 rfl (by kernel_rfl) (by kernel_rfl) (by kernel_rfl) (fun _ _ _ h => h) (by rfl) ?_ (by assumption) ?_
  rotate_left
  · intro w hSw; (try dsimp only at hSw); go_simp; (try with_reducible rfl)
  (try simp only [Act.put, uA29, List.setIfInBounds_toArray, List.set_cons_zero, List.set_cons_succ])
  refine tkW (v := ?_) 30 uA30 rfl (by kernel_rfl) (by kernel_rfl) (by kernel_rfl) (fun _ _ _ h => h) (by rfl) ?_ (by assumption) ?_
  rotate_left
  · intro w hSw; (try dsimp only at hSw); go_simp; (try with_reducible rfl)
  (try simp only [Act.put, uA30, List.setIfInBounds_toArray, List.set_cons_zero, List.set_cons_succ])
  refine wpAnyH_done (by kernel_rfl) ?_ _
  obtain ⟨X, hX⟩ : ∃ x, x = V.drew := ⟨_, rfl⟩
  have hBX : X.heap[w.heap.size + 1]? = some (.cells #[.bool false, .int .i64 0, .slice none 0 0, .slice none 0 0] 51 (0, 0)) := by rw [hX]; exact hBV
  have kx : Kp V X := by rw [hX]; exact Kp.drew _
  have KX := Lib.hid kx
  have KWX := Lib.hid (KV.out.trans kx)
  rw [← hX]
  clear hX hBV kx
  obtain ⟨c0, c1, c2, c3, c4, c5, c6, c7, _⟩ := HB.out X KX.out
  have r0 : X.cell? ⟨w.heap.size + 1, 0, none⟩ = some (.bool false) := by simp [World.cell?, hBX]
  have f0 : X.frozen? ⟨w.heap.size + 1, 0, none⟩ = false := by simp [World.frozen?, hBX]
  have r1 : X.cell? ⟨w.heap.size + 1, 1, none⟩ = some (.int .i64 0) := by simp [World.cell?, hBX]
  have f1 : X.frozen? ⟨w.heap.size + 1, 1, none⟩ = false := by simp [World.frozen?, hBX]
  have r2 : X.cell? ⟨w.heap.size + 1, 2, none⟩ = some (.slice none 0 0) := by simp [World.cell?, hBX]
  have f2 : X.frozen? ⟨w.heap.size + 1, 2, none⟩ = false := by simp [World.frozen?, hBX]
  have r3 : X.cell? ⟨w.heap.size + 1, 3, none⟩ = some (.slice none 0 0) := by simp [World.cell?, hBX]
  have f3 : X.frozen? ⟨w.heap.size + 1, 3, none⟩ = false := by simp [World.frozen?, hBX]
  have sx := KWX.out.size
  go_wp2
  have RD0 := set4_read hBX (.bool false) (.int .i64 0) (.slice none 0 0) (.slice none 0 0) (Kp.refl _)
  exact bodyPost_ret (v := .agg #[.bool false, .int .i64 0, .slice none 0 0, .slice none 0 0]) (by simp [results, Tryz.f72, go_sem, RD0]) rfl ⟨.slice none 0 0, .slice none 0 0, rfl, lf0_ok _, set4_below KWX.out (w.heap.size + 1) (by omega) _ _ _ _⟩
set_option maxHeartbeats 16000000 in
set_option maxRecDepth 100000 in
theorem refTidy_5 (spg : Bool) (ug : Int) (ag bg : List R) (iag : I64R ag) (ibg : I64R bg) (f : LF) (va vb : Value) (w : World) (h : LeafOk w f va vb) (hf : asL f = ⟨spg, ug, ag, bg⟩) (h0 : ag.length ≠ 0) (hs : spg = true) (h1 : bg.length ≠ 0) (hg : ¬ greatR bg < leastR ag) :
    Calls Tryz.prog 72 #[leafV f va vb] w fun e w' => ∃ va' vb', e = .returned (leafV (⟨true, 0, interR ag [(0, greatR bg)], interR bg [(leastR ag, 3652424)]⟩) va' vb') ∧ LeafOk w' (⟨true, 0, interR ag [(0, greatR bg)], interR bg [(leastR ag, 3652424)]⟩) va' vb' ∧ Kp w w' := by
  have C := Lib.hid (fun w1 (kk : Kp w w1) => refAs_any f va vb w1 (h.kp kk))
  rw [hf] at C
  clear hf
  obtain ⟨sp, u, a, b⟩ := f
  obtain ⟨ad, ca, rfl⟩ := h.a.slice
  obtain ⟨bd, cb, rfl⟩ := h.b.slice
  simp only [leafV] at C ⊢
  have K0 := Lib.hid ((Kp.alloc w (.cells #[.bool sp, .int .i64 u, .slice ad a.length ca, .slice bd b.length cb] 51)).trans (Kp.alloc _ (.cells #[.bool false, .int .i64 0, .slice none 0 0, .slice none 0 0] 51)))
  clear h
  subst hs
  have q1 : ((bg.length : Int) == 0) = false := beq_eq_false_iff_ne.2 (by omega)
  have q2 : decide (greatR bg < leastR ag) = false := decide_eq_false hg
  have gi := greatR_i64 ibg (by omega)
  have li := leastR_i64 iag (by omega)
  have ii1 := i64_one (lo := 0) (hi' := greatR bg) (by decide) (by decide) gi.1 gi.2
  have ii2 := i64_one (lo := leastR ag) (hi' := 3652424) li.1 li.2 (by decide) (by decide)
  have q0 : ((ag.length : Int) == 0) = false := beq_eq_false_iff_ne.2 (by omega)
  go_enter Tryz.func72, Tryz.ntmps72
  go_wp2_with fail
  refine (C.out _ K0.out).mono ?_
  rintro e w1 ⟨ga, gb, rfl, okg, kk⟩
  have hB := (kk.block (w.heap.size + 1) (by simp)).trans (heap_at (w.alloc _) (.cells #[.bool false, .int .i64 0, .slice none 0 0, .slice none 0 0] 51 (0, 0)) (w.heap.size + 1) (by simp))
  have s1 := kk.size
  simp at s1
  have K1 := Lib.hid (K0.out.trans kk)
  clear kk C
  obtain ⟨ba, oa, cag, ev, x0, x1⟩ := ends_at okg.a (by simp only; omega)
  subst ev
  obtain ⟨bb, ob, cbg, ev, y0, y1⟩ := ends_at okg.b (by simp only; omega)
  subst ev
  have na := okg.na
  have nb := okg.nb
  simp only at na nb x0 x1 y0 y1
  obtain ⟨V, hV⟩ : ∃ x, x = w1.alloc (.cells #[.bool true, .int .i64 ug, .slice (some ⟨ba, oa, none⟩) ag.length cag, .slice (some ⟨bb, ob, none⟩) bg.length cbg] 51) := ⟨_, rfl⟩
  have ka : Kp w1 V := by rw [hV]; exact Kp.alloc _ _
  have hgq : V.heap[w1.heap.size]? = some (.cells #[.bool true, .int .i64 ug, .slice (some ⟨ba, oa, none⟩) ag.length cag, .slice (some ⟨bb, ob, none⟩) bg.length cbg] 51 (0, 0)) := by rw [hV]; exact heap_at _ _ _ rfl
  have g0 : V.cell? ⟨w1.heap.size, 0, none⟩ = some (.bool true) := by simp [World.cell?, hgq]
  have g1 : V.cell? ⟨w1.heap.size, 1, none⟩ = some (.int .i64 ug) := by simp [World.cell?, hgq]
  have g2 : V.cell? ⟨w1.heap.size, 2, none⟩ = some (.slice (some ⟨ba, oa, none⟩) ag.length cag) := by simp [World.cell?, hgq]
  have g3 : V.cell? ⟨w1.heap.size, 3, none⟩ = some (.slice (some ⟨bb, ob, none⟩) bg.length cbg) := by simp [World.cell?, hgq]
  have HB := Lib.hid (fun w' (k : Kp V w') => show w'.cell? ⟨w1.heap.size, 0, none⟩ = some (.bool true) ∧ w'.cell? ⟨w1.heap.size, 1, none⟩ = some (.int .i64 ug) ∧ w'.cell? ⟨w1.heap.size, 2, none⟩ = some (.slice (some ⟨ba, oa, none⟩) ag.length cag) ∧ w'.cell? ⟨w1.heap.size, 3, none⟩ = some (.slice (some ⟨bb, ob, none⟩) bg.length cbg) ∧ w'.cell? ⟨ba, oa, none⟩ = some (.int .i64 (leastR ag)) ∧ w'.cell? ⟨ba, oa + (ag.length - 1) * 2 + 1, none⟩ = some (.int .i64 (greatR ag)) ∧ w'.cell? ⟨bb, ob, none⟩ = some (.int .i64 (leastR bg)) ∧ w'.cell? ⟨bb, ob + (bg.length - 1) * 2 + 1, none⟩ = some (.int .i64 (greatR bg)) ∧ Kp V w' from ⟨cell_up k g0, cell_up k g1, cell_up k g2, cell_up k g3, cell_up (ka.trans k) x0, cell_up (ka.trans k) x1, cell_up (ka.trans k) y0, cell_up (ka.trans k) y1, k⟩)
  have hBV := heap_block ka hB
  have KV := Lib.hid (K1.out.trans ka)
  have HV := Lib.hid hV
  have OKV := Lib.hid (okg.kp ka)
  have wt : (bg.length : Int) - 1 = ((bg.length - 1 : Nat) : Int) := by omega
  have wu : IntKind.i64.wrap ((bg.length - 1 : Nat) : Int) = ((bg.length - 1 : Nat) : Int) := IntWalk.i64_in _ (by omega)
  have wx : bg.length - 1 < bg.length := by omega
  have wy : ((bg.length - 1 : Nat) : Int) < (bg.length : Int) := by omega
  have wv : (0 : Int) ≤ ((bg.length - 1 : Nat) : Int) := by omega
  have wz : 0 < ag.length := by omega
  clear hV ka hgq g0 g1 g2 g3 x0 x1 y0 y1 hB okg
  go_wp2_with fail
  rw [← HV.out]
  refine wp_region_held_drew (S := fun w' => w'.cell? ⟨w1.heap.size, 0, none⟩ = some (.bool true) ∧ w'.cell? ⟨w1.heap.size, 1, none⟩ = some (.int .i64 ug) ∧ w'.cell? ⟨w1.heap.size, 2, none⟩ = some (.slice (some ⟨ba, oa, none⟩) ag.length cag) ∧ w'.cell? ⟨w1.heap.size, 3, none⟩ = some (.slice (some ⟨bb, ob, none⟩) bg.length cbg) ∧ w'.cell? ⟨ba, oa, none⟩ = some (.int .i64 (leastR ag)) ∧ w'.cell? ⟨ba, oa + (ag.length - 1) * 2 + 1, none⟩ = some (.int .i64 (greatR ag)) ∧ w'.cell? ⟨bb, ob, none⟩ = some (.int .i64 (leastR bg)) ∧ w'.cell? ⟨bb, ob + (bg.length - 1) * 2 + 1, none⟩ = some (.int .i64 (greatR bg)) ∧ Kp V w') (by kernel_rfl) ?_ (fun hHeld0 => ?_)
  · (try dsimp only); exact HB.out _ (by first | assumption | exact Kp.drew _)
  refine tkW (v := ?_) 0 uA0 rfl (by kernel_rfl) (by kernel_rfl) (by kernel_rfl) (fun _ _ _ h => h) (by rfl) ?_ (by assumption) ?_
  rotate_left
  · intro w hSw; (try dsimp only at hSw); go_simp; (try with_reducible rfl)
  (try simp only [Act.put, uA0, List.setIfInBounds_toArray, List.set_cons_zero, List.set_cons_succ])
  refine tkW (v := ?_) 1 uA1 rfl (by kernel_rfl) (by kernel_rfl) (by kernel_rfl) (fun _ _ _ h => h) (by rfl) ?_ (by assumption) ?_
  rotate_left
  · intro w hSw; (try dsimp only at hSw); go_simp; (try with_reducible rfl)
  (try simp only [Act.put, uA1, List.setIfInBounds_toArray, List.set_cons_zero, List.set_cons_succ])
  refine tkW (v := ?_) 2 uA2 rfl (by kernel_rfl) (by kernel_rfl) (by kernel_rfl) (fun _ _ _ h => h) (by rfl) ?_ (by assumption) ?_
  rotate_left
  · intro w hSw; (try dsimp only at hSw); go_simp; (try with_reducible rfl)
  (try simp only [Act.put, uA2, List.setIfInBounds_toArray, List.set_cons_zero, List.set_cons_succ])
  refine tkW (v := ?_) 3 uA3 rfl (by kernel_rfl) (by kernel_rfl) (by kernel_rfl) (fun _ _ _ h => h) (by rfl) ?_ (by assumption) ?_
  rotate_left
  · intro w hSw; (try dsimp only at hSw); go_simp; (try with_reducible rfl)
  (try simp only [Act.put, uA3, List.setIfInBounds_toArray, List.set_cons_zero, List.set_cons_succ])
  refine tkW (v := ?_) 4 uA4 rfl (by kernel_rfl) (by kernel_rfl) (by kernel_rfl) (fun _ _ _ h => h) (by rfl) ?_ (by assumption) ?_
  rotate_left
  · intro w hSw; (try dsimp only at hSw); go_simp; (try with_reducible rfl)
  (try simp only [Act.put, uA4, List.setIfInBounds_toArray, List.set_cons_zero, List.set_cons_succ])
  refine tkW (v := ?_) 5 uA5 rfl (by kernel_rfl) (by kernel_rfl) (by kernel_rfl) (fun _ _ _ h => h) (by rfl) ?_ (by assumption) ?_
  rotate_left
  · intro w hSw; (try dsimp only at hSw); go_simp; (try with_reducible rfl)
  (try simp only [Act.put, uA5, List.setIfInBounds_toArray, List.set_cons_zero, List.set_cons_succ])
  refine tkW (v := ?_) 6 uA6 rfl (by kernel_rfl) (by kernel_rfl) (by kernel_rfl) (fun _ _ _ h => h) (by rfl) ?_ (by assumption) ?_
  rotate_left
  · intro w hSw; (try dsimp only at hSw); go_simp; (try with_reducible rfl)
  (try simp only [Act.put, uA6, List.setIfInBounds_toArray, List.set_cons_zero, List.set_cons_succ])
  refine tkW (v := ?_) 7 uA7 rfl (by kernel_rfl) (by kernel_rfl) (by kernel_rfl) (fun _ _ _ h => h) (by rfl) ?_ (by assumption) ?_
  rotate_left
  · intro w hSw; (try dsimp only at hSw); go_simp; (try with_reducible rfl)
  (try simp only [Act.put, uA7, List.setIfInBounds_toArray, List.set_cons_zero, List.set_cons_succ])
  refine tkW (v := ?_) 8 uA8 rfl (by kernel_rfl) (by kernel_rfl) (by kernel_rfl) (fun _ _ _ h => h) (by rfl) ?_ (by assumption) ?_
  rotate_left
  · intro w hSw; (try dsimp only at hSw); go_simp; (try with_reducible rfl)
  (try simp only [Act.put, uA8, List.setIfInBounds_toArray, List.set_cons_zero, List.set_cons_succ])
  refine tkW (v := ?_) 9 uA9 rfl (by kernel_rfl) (by kernel_rfl) (by kernel_rfl) (fun _ _ _ h => h) (by rfl) ?_ (by assumption) ?_
  rotate_left
  · intro w hSw; (try dsimp only at hSw); go_simp; (try with_reducible rfl)
  (try simp only [Act.put, uA9, List.setIfInBounds_toArray, List.set_cons_zero, List.set_cons_succ])
  refine tkW (v := ?_) 10 uA10 rfl (by kernel_rfl) (by kernel_rfl) (by kernel_rfl) (fun _ _ _ h => h) (by rfl) ?_ (by assumption) ?_
  rotate_left
  · intro w hSw; (try dsimp only at hSw); go_simp; (try with_reducible rfl)
  (try simp only [Act.put, uA10, List.setIfInBounds_toArray, List.set_cons_zero, List.set_cons_succ])
  refine tkW (v := ?_) 11 uA11 rfl (by kernel_rfl) (by kernel_rfl) (by kernel_rfl) (fun _ _ _ h => h) (by rfl) ?_ (by assumption) ?_
  rotate_left
  · intro w hSw; (try dsimp only at hSw); go_simp; (try with_reducible rfl)
  (try simp only [Act.put, uA11, List.setIfInBounds_toArray, List.set_cons_zero, List.set_cons_succ])
  refine tkW (v := ?_) 12 uA12 rfl (by kernel_rfl) (by kernel_rfl) (by kernel_rfl) (fun _ _ _ h => h) (by rfl) ?_ (by assumption) ?_
  rotate_left
  · intro w hSw; (try dsimp only at hSw); go_simp; (try with_reducible rfl)
  (try simp only [Act.put, uA12, List.setIfInBounds_toArray, List.set_cons_zero, List.set_cons_succ])
  refine tkW (v := ?_) 13 uA13 rfl (by kernel_rfl) (by kernel_rfl) (by kernel_rfl) (fun _ _ _ h => h) (by rfl) ?_ (by assumption) ?_
  rotate_left
  · intro w hSw; (try dsimp only at hSw); go_simp; (try with_reducible rfl)
  (try simp only [Act.put, uA13, List.setIfInBounds_toArray, List.set_cons_zero, List.set_cons_succ])
  refine tkW (v := ?_) 14 uA14 rfl (by kernel_rfl) (by kernel_rfl) (by kernel_rfl) (fun _ _ _ h => h) (by rfl) ?_ (by assumption) ?_
  rotate_left
  · intro w hSw; (try dsimp only at hSw); go_simp; (try with_reducible rfl)
  (try simp only [Act.put, uA14, List.setIfInBounds_toArray, List.set_cons_zero, List.set_cons_succ])
  refine tkW (v := ?_) 15 uA15 rfl (by kernel_rfl) (by kernel_rfl) (by kernel_rfl) (fun _ _ _ h => h) (by rfl) ?_ (by assumption) ?_
  rotate_left
  · intro w hSw; (try dsimp only at hSw); go_simp; (try with_reducible rfl)
  (try simp only [Act.put, uA15, List.setIfInBounds_toArray, List.set_cons_zero, List.set_cons_succ])
  refine tkW (v := ?_) 16 uA16 rfl (by kernel_rfl) (by kernel_rfl) (by kernel_rfl) (fun _ _ _ h => h) (by rfl) ?_ (by assumption) ?_
  rotate_left
  · intro w hSw; (try dsimp only at hSw); go_simp; (try with_reducible rfl)
  (try simp only [Act.put, uA16, List.setIfInBounds_toArray, List.set_cons_zero, List.set_cons_succ])
  refine tkW (v := ?_) 17 uA17 rfl (by kernel_rfl) (by kernel_rfl) (by kernel_rfl) (fun _ _ _ h => h) (by rfl) ?_ (by assumption) ?_
  rotate_left
  · intro w hSw; (try dsimp only at hSw); go_simp; (try with_reducible rfl)
  (try simp only [Act.put, uA17, List.setIfInBounds_toArray, List.set_cons_zero, List.set_cons_succ])
  refine tkW (v := ?_) 18 uA18 rfl (by kernel_rfl) (by kernel_rfl) (by kernel_rfl) (fun _ _ _ h => h) (by rfl) ?_ (by assumption) ?_
  rotate_left
  · intro w hSw; (try dsimp only at hSw); go_simp; (try with_reducible rfl)
  (try simp only [Act.put, uA18, List.setIfInBounds_toArray, List.set_cons_zero, List.set_cons_succ])
  refine tkW (v := ?_) 19 uA19 rfl (by kernel_rfl) (by kernel_rfl) (by kernel_rfl) (fun _ _ _ h => h) (by rfl) ?_ (by assumption) ?_
  rotate_left
  · intro w hSw; (try dsimp only at hSw); go_simp; (try with_reducible rfl)
  (try simp only [Act.put, uA19, List.setIfInBounds_toArray, List.set_cons_zero, List.set_cons_succ])
  refine tkW (v := ?_) 20 uA20 rfl (by kernel_rfl) (by kernel_rfl) (by kernel_rfl) (fun _ _ _ h => h) (by rfl) ?_ (by assumption) ?_
  rotate_left
  · intro w hSw; (try dsimp only at hSw); go_simp; (try with_reducible rfl)
  (try simp only [Act.put, uA20, List.setIfInBounds_toArray, List.set_cons_zero, List.set_cons_succ])
  refine tkW (v := ?_) 21 uA21 rfl (by kernel_rfl) (by kernel_rfl) (by kernel_rfl) (fun _ _ _ h => h) (by rfl) ?_ (by assumption) ?_
  rotate_left
  · intro w hSw; (try dsimp only at hSw); go_simp; (try with_reducible rfl)
  (try simp only [Act.put, uA21, List.setIfInBounds_toArray, List.set_cons_zero, List.set_cons_succ])
  refine tkW (v := ?_) 22 uA22 rfl (by kernel_rfl) (by kernel_rfl) (by kernel_rfl) (fun _ _ _ h => h) (by rfl) ?_ (by assumption) ?_
  rotate_left
  · intro w hSw; (try dsimp only at hSw); go_simp; (try with_reducible rfl)
  (try simp only [Act.put, uA22, List.setIfInBounds_toArray, List.set_cons_zero, List.set_cons_succ])
  refine tkW (v := ?_) 23 uA23 rfl (by kernel_rfl) (by kernel_rfl) (by kernel_rfl) (fun _ _ _ h => h) (by rfl) ?_ (by assumption) ?_
  rotate_left
  · intro w hSw; (try dsimp only at hSw); go_simp; (try with_reducible rfl)
  (try simp only [Act.put, uA23, List.setIfInBounds_toArray, List.set_cons_zero, List.set_cons_succ])
  refine tkW (v := ?_) 24 uA24 rfl (by kernel_rfl) (by kernel_rfl) (by kernel_rfl) (fun _ _ _ h => h) (by rfl) ?_ (by assumption) ?_
  rotate_left
  · intro w hSw; (try dsimp only at hSw); go_simp; (try with_reducible rfl)
  (try simp only [Act.put, uA24, List.setIfInBounds_toArray, List.set_cons_zero, List.set_cons_succ])
  refine tkW (v := ?_) 25 uA25 rfl (by kernel_rfl) (by kernel_rfl) (by kernel_rfl) (fun _ _ _ h => h) (by rfl) ?_ (by assumption) ?_
  rotate_left
  · intro w hSw; (try dsimp only at hSw); go_simp; (try with_reducible rfl)
  (try simp only [Act.put, uA25, List.setIfInBounds_toArray, List.set_cons_zero, List.set_cons_succ])
  refine tkW (v := ?_) 26 uA26 rfl (by kernel_rfl) (by kernel_rfl) (by kernel_rfl) (fun _ _ _ h => h) (by rfl) ?_ (by assumption) ?_
  rotate_left
  · intro w hSw; (try dsimp only at hSw); go_simp; (try with_reducible rfl)
  (try simp only [Act.put, uA26, List.setIfInBounds_toArray, List.set_cons_zero, List.set_cons_succ])
  refine tkW (v := ?_) 27 uA27 rfl (by kernel_rfl) (by kernel_rfl) (by kernel_rfl) (fun _ _ _ h => h) (by rfl) ?_ (by assumption) ?_
  rotate_left
  · intro w hSw; (try dsimp only at hSw); go_simp; (try with_reducible rfl)
  (try simp only [Act.put, uA27, List.setIfInBounds_toArray, List.set_cons_zero, List.set_cons_succ])
  refine tkW (v := ?_) 28 uA28 rfl (by kernel_rfl) (by kernel_rfl) (by kernel_rfl) (fun _ _ _ h => h) (by rfl) ?_ (by assumption) ?_
  rotate_left
  · intro w hSw; (try dsimp only at hSw); go_simp; (try with_reducible rfl)
  (try simp only [Act.put, uA28, List.setIfInBounds_toArray, List.set_cons_zero, List.set_cons_succ])
  refine tkW (v := ?_) 29 uA29 rfl (by kernel_rfl) (by kernel_rfl) (by kernel_rfl) (fun _ _ _ h => h) (by rfl) ?_ (by assumption) ?_
  rotate_left
  · intro w hSw; (try dsimp only at hSw); go_simp; (try with_reducible rfl)
  (try simp only [Act.put, uA29, List.setIfInBounds_toArray, List.set_cons_zero, List.set_cons_succ])
  refine tkW (v := ?_) 30 uA30 rfl (by kernel_rfl) (by kernel_rfl) (by kernel_rfl) (fun _ _ _ h => h) (by rfl) ?_ (by assumption) ?_
  rotate_left
  · intro w hSw; (try dsimp only at hSw); go_simp; (try with_reducible rfl)
  (try simp only [Act.put, uA30, List.setIfInBounds_toArray, List.set_cons_zero, List.set_cons_succ])
  refine wpAnyH_done (by kernel_rfl) ?_ _
  obtain ⟨X, hX⟩ : ∃ x, x = V.drew := ⟨_, rfl⟩
  have hBX : X.heap[w.heap.size + 1]? = some (.cells #[.bool false, .int .i64 0, .slice none 0 0, .slice none 0 0] 51 (0, 0)) := by rw [hX]; exact hBV
  have kx : Kp V X := by rw [hX]; exact Kp.drew _
  have KX := Lib.hid kx
  have KWX := Lib.hid (KV.out.trans kx)
  rw [← hX]
  clear hX hBV kx
  have CA := Lib.hid (fun w2 (kk : Kp X w2) => rclip_any _ ag 0 (greatR bg) w2 (OKV.out.a.kp (KX.out.trans kk)) OKV.out.ia (by omega) ii1)
  have CB := Lib.hid (fun w2 (kk : Kp X w2) => rclip_any _ bg (leastR ag) 3652424 w2 (OKV.out.b.kp (KX.out.trans kk)) OKV.out.ib (by omega) ii2)
  have HX := Lib.hid (fun w' (k : Kp X w') => show w'.cell? ⟨w1.heap.size, 0, none⟩ = some (.bool true) ∧ w'.cell? ⟨w1.heap.size, 1, none⟩ = some (.int .i64 ug) ∧ w'.cell? ⟨w1.heap.size, 2, none⟩ = some (.slice (some ⟨ba, oa, none⟩) ag.length cag) ∧ w'.cell? ⟨w1.heap.size, 3, none⟩ = some (.slice (some ⟨bb, ob, none⟩) bg.length cbg) ∧ w'.cell? ⟨ba, oa, none⟩ = some (.int .i64 (leastR ag)) ∧ w'.cell? ⟨ba, oa + (ag.length - 1) * 2 + 1, none⟩ = some (.int .i64 (greatR ag)) ∧ w'.cell? ⟨bb, ob, none⟩ = some (.int .i64 (leastR bg)) ∧ w'.cell? ⟨bb, ob + (bg.length - 1) * 2 + 1, none⟩ = some (.int .i64 (greatR bg)) ∧ Kp X w' from by have h := HB.out w' (KX.out.trans k); exact ⟨h.1, h.2.1, h.2.2.1, h.2.2.2.1, h.2.2.2.2.1, h.2.2.2.2.2.1, h.2.2.2.2.2.2.1, h.2.2.2.2.2.2.2.1, k⟩)
  obtain ⟨c0, c1, c2, c3, c4, c5, c6, c7, _⟩ := HX.out X (Kp.refl _)
  go_wp2_with fail
  refine wp_region_held_drew (S := fun w' => w'.cell? ⟨w1.heap.size, 0, none⟩ = some (.bool true) ∧ w'.cell? ⟨w1.heap.size, 1, none⟩ = some (.int .i64 ug) ∧ w'.cell? ⟨w1.heap.size, 2, none⟩ = some (.slice (some ⟨ba, oa, none⟩) ag.length cag) ∧ w'.cell? ⟨w1.heap.size, 3, none⟩ = some (.slice (some ⟨bb, ob, none⟩) bg.length cbg) ∧ w'.cell? ⟨ba, oa, none⟩ = some (.int .i64 (leastR ag)) ∧ w'.cell? ⟨ba, oa + (ag.length - 1) * 2 + 1, none⟩ = some (.int .i64 (greatR ag)) ∧ w'.cell? ⟨bb, ob, none⟩ = some (.int .i64 (leastR bg)) ∧ w'.cell? ⟨bb, ob + (bg.length - 1) * 2 + 1, none⟩ = some (.int .i64 (greatR bg)) ∧ Kp X w') (by kernel_rfl) ?_ (fun hHeld0 => ?_)
  · (try dsimp only); exact HX.out _ (by first | assumption | exact Kp.drew _)
  refine tkW (v := ?_) 0 uB0 rfl (by kernel_rfl) (by kernel_rfl) (by kernel_rfl) (fun _ _ _ h => h) (by rfl) ?_ (by assumption) ?_
  rotate_left
  · intro w hSw; (try dsimp only at hSw); go_simp; (try with_reducible rfl)
  (try simp only [Act.put, uB0, List.setIfInBounds_toArray, List.set_cons_zero, List.set_cons_succ])
  refine tkW (v := ?_) 1 uB1 rfl (by kernel_rfl) (by kernel_rfl) (by kernel_rfl) (fun _ _ _ h => h) (by rfl) ?_ (by assumption) ?_
  rotate_left
  · intro w hSw; (try dsimp only at hSw); go_simp; (try with_reducible rfl)
  (try simp only [Act.put, uB1, List.setIfInBounds_toArray, List.set_cons_zero, List.set_cons_succ])
  refine tkW (v := ?_) 2 uB2 rfl (by kernel_rfl) (by kernel_rfl) (by kernel_rfl) (fun _ _ _ h => h) (by rfl) ?_ (by assumption) ?_
  rotate_left
  · intro w hSw; (try dsimp only at hSw); go_simp; (try with_reducible rfl)
  (try simp only [Act.put, uB2, List.setIfInBounds_toArray, List.set_cons_zero, List.set_cons_succ])
  refine tkW (v := ?_) 3 uB3 rfl (by kernel_rfl) (by kernel_rfl) (by kernel_rfl) (fun _ _ _ h => h) (by rfl) ?_ (by assumption) ?_
  rotate_left
  · intro w hSw; (try dsimp only at hSw); go_simp; (try with_reducible rfl)
  (try simp only [Act.put, uB3, List.setIfInBounds_toArray, List.set_cons_zero, List.set_cons_succ])
  refine tkW (v := ?_) 4 uB4 rfl (by kernel_rfl) (by kernel_rfl) (by kernel_rfl) (fun _ _ _ h => h) (by rfl) ?_ (by assumption) ?_
  rotate_left
  · intro w hSw; (try dsimp only at hSw); go_simp; (try with_reducible rfl)
  (try simp only [Act.put, uB4, List.setIfInBounds_toArray, List.set_cons_zero, List.set_cons_succ])
  refine tkW (v := ?_) 5 uB5 rfl (by kernel_rfl) (by kernel_rfl) (by kernel_rfl) (fun _ _ _ h => h) (by rfl) ?_ (by assumption) ?_
  rotate_left
  · intro w hSw; (try dsimp only at hSw); go_simp; (try with_reducible rfl)
  (try simp only [Act.put, uB5, List.setIfInBounds_toArray, List.set_cons_zero, List.set_cons_succ])
  refine tkW (v := ?_) 6 uB6 rfl (by kernel_rfl) (by kernel_rfl) (by kernel_rfl) (fun _ _ _ h => h) (by rfl) ?_ (by assumption) ?_
  rotate_left
  · intro w hSw; (try dsimp only at hSw); go_simp; (try with_reducible rfl)
  (try simp only [Act.put, uB6, List.setIfInBounds_toArray, List.set_cons_zero, List.set_cons_succ])
  refine tkW (v := ?_) 7 uB7 rfl (by kernel_rfl) (by kernel_rfl) (by kernel_rfl) (fun _ _ _ h => h) (by rfl) ?_ (by assumption) ?_
  rotate_left
  · intro w hSw; (try dsimp only at hSw); go_simp; (try with_reducible rfl)
  (try simp only [Act.put, uB7, List.setIfInBounds_toArray, List.set_cons_zero, List.set_cons_succ])
  refine tkW (v := ?_) 8 uB8 rfl (by kernel_rfl) (by kernel_rfl) (by kernel_rfl) (fun _ _ _ h => h) (by rfl) ?_ (by assumption) ?_
  rotate_left
  · intro w hSw; (try dsimp only at hSw); go_simp; (try with_reducible rfl)
  (try simp only [Act.put, uB8, List.setIfInBounds_toArray, List.set_cons_zero, List.set_cons_succ])
  refine tkW (v := ?_) 9 uB9 rfl (by kernel_rfl) (by kernel_rfl) (by kernel_rfl) (fun _ _ _ h => h) (by rfl) ?_ (by assumption) ?_
  rotate_left
  · intro w hSw; (try dsimp only at hSw); go_simp; (try with_reducible rfl)
  (try simp only [Act.put, uB9, List.setIfInBounds_toArray, List.set_cons_zero, List.set_cons_succ])
  refine tkW (v := ?_) 10 uB10 rfl (by kernel_rfl) (by kernel_rfl) (by kernel_rfl) (fun _ _ _ h => h) (by rfl) ?_ (by assumption) ?_
  rotate_left
  · intro w hSw; (try dsimp only at hSw); go_simp; (try with_reducible rfl)
  (try simp only [Act.put, uB10, List.setIfInBounds_toArray, List.set_cons_zero, List.set_cons_succ])
  refine tkE 11 uB11 rfl (by kernel_rfl) (fun K hK => ?_)
  go_simp
  (refine (CA.out _ (by first | assumption | exact Kp.drew _)).mono ?_; rintro e w' ⟨v4, rfl, r4, k1⟩; have k2 := Kp.trans (show Kp X _ from (by first | assumption | exact Kp.drew _)) k1; clear k1)
  (try go_wp2_with fail)
  refine hK.out _ _ ?_ (fun hHeld1 => ?_)
  · (try dsimp only); exact HX.out _ (by first | assumption | exact Kp.drew _)
  clear hK K hHeld0
  (try simp only [Act.put, uB11, List.setIfInBounds_toArray, List.set_cons_zero, List.set_cons_succ])
  refine tkW (v := ?_) 12 uB12 rfl (by kernel_rfl) (by kernel_rfl) (by kernel_rfl) (fun _ _ _ h => h) (by rfl) ?_ (by assumption) ?_
  rotate_left
  · intro w hSw; (try dsimp only at hSw); go_simp; (try with_reducible rfl)
  (try simp only [Act.put, uB12, List.setIfInBounds_toArray, List.set_cons_zero, List.set_cons_succ])
  refine wpAnyH_done (by kernel_rfl) ?_ _
  obtain ⟨Y, hY⟩ : ∃ x : World, x = w' := ⟨_, rfl⟩
  subst hY
  obtain ⟨ad4, c4', rfl⟩ := r4.slice
  have R4 := Lib.hid r4
  have KY := Lib.hid k2
  have HY := Lib.hid (fun w' (k : Kp Y w') => show w'.cell? ⟨w1.heap.size, 0, none⟩ = some (.bool true) ∧ w'.cell? ⟨w1.heap.size, 1, none⟩ = some (.int .i64 ug) ∧ w'.cell? ⟨w1.heap.size, 2, none⟩ = some (.slice (some ⟨ba, oa, none⟩) ag.length cag) ∧ w'.cell? ⟨w1.heap.size, 3, none⟩ = some (.slice (some ⟨bb, ob, none⟩) bg.length cbg) ∧ w'.cell? ⟨ba, oa, none⟩ = some (.int .i64 (leastR ag)) ∧ w'.cell? ⟨ba, oa + (ag.length - 1) * 2 + 1, none⟩ = some (.int .i64 (greatR ag)) ∧ w'.cell? ⟨bb, ob, none⟩ = some (.int .i64 (leastR bg)) ∧ w'.cell? ⟨bb, ob + (bg.length - 1) * 2 + 1, none⟩ = some (.int .i64 (greatR bg)) ∧ Kp Y w' from by have h := HX.out w' (KY.out.trans k); exact ⟨h.1, h.2.1, h.2.2.1, h.2.2.2.1, h.2.2.2.2.1, h.2.2.2.2.2.1, h.2.2.2.2.2.2.1, h.2.2.2.2.2.2.2.1, k⟩)
  clear c0 c1 c2 c3 c4 c5 c6 c7 r4 k2
  obtain ⟨c0, c1, c2, c3, c4, c5, c6, c7, _⟩ := HY.out Y (Kp.refl _)
  go_wp2_with fail
  refine wp_region_held_drew (S := fun w' => w'.cell? ⟨w1.heap.size, 0, none⟩ = some (.bool true) ∧ w'.cell? ⟨w1.heap.size, 1, none⟩ = some (.int .i64 ug) ∧ w'.cell? ⟨w1.heap.size, 2, none⟩ = some (.slice (some ⟨ba, oa, none⟩) ag.length cag) ∧ w'.cell? ⟨w1.heap.size, 3, none⟩ = some (.slice (some ⟨bb, ob, none⟩) bg.length cbg) ∧ w'.cell? ⟨ba, oa, none⟩ = some (.int .i64 (leastR ag)) ∧ w'.cell? ⟨ba, oa + (ag.length - 1) * 2 + 1, none⟩ = some (.int .i64 (greatR ag)) ∧ w'.cell? ⟨bb, ob, none⟩ = some (.int .i64 (leastR bg)) ∧ w'.cell? ⟨bb, ob + (bg.length - 1) * 2 + 1, none⟩ = some (.int .i64 (greatR bg)) ∧ Kp Y w') (by kernel_rfl) ?_ (fun hHeld0 => ?_)
  · (try dsimp only); exact HY.out _ (by first | assumption | exact Kp.drew _)
  refine tkW (v := ?_) 0 uC0 rfl (by kernel_rfl) (by kernel_rfl) (by kernel_rfl) (fun _ _ _ h => h) (by rfl) ?_ (by assumption) ?_
  rotate_left
  · intro w hSw; (try dsimp only at hSw); go_simp; (try with_reducible rfl)
  (try simp only [Act.put, uC0, List.setIfInBounds_toArray, List.set_cons_zero, List.set_cons_succ])
  refine tkW (v := ?_) 1 uC1 rfl (by kernel_rfl) (by kernel_rfl) (by kernel_rfl) (fun _ _ _ h => h) (by rfl) ?_ (by assumption) ?_
  rotate_left
  · intro w hSw; (try dsimp only at hSw); go_simp; (try with_reducible rfl)
  (try simp only [Act.put, uC1, List.setIfInBounds_toArray, List.set_cons_zero, List.set_cons_succ])
  refine tkW (v := ?_) 2 uC2 rfl (by kernel_rfl) (by kernel_rfl) (by kernel_rfl) (fun _ _ _ h => h) (by rfl) ?_ (by assumption) ?_
  rotate_left
  · intro w hSw; (try dsimp only at hSw); go_simp; (try with_reducible rfl)
  (try simp only [Act.put, uC2, List.setIfInBounds_toArray, List.set_cons_zero, List.set_cons_succ])
  refine tkW (v := ?_) 3 uC3 rfl (by kernel_rfl) (by kernel_rfl) (by kernel_rfl) (fun _ _ _ h => h) (by rfl) ?_ (by assumption) ?_
  rotate_left
  · intro w hSw; (try dsimp only at hSw); go_simp; (try with_reducible rfl)
  (try simp only [Act.put, uC3, List.setIfInBounds_toArray, List.set_cons_zero, List.set_cons_succ])
  refine tkW (v := ?_) 4 uC4 rfl (by kernel_rfl) (by kernel_rfl) (by kernel_rfl) (fun _ _ _ h => h) (by rfl) ?_ (by assumption) ?_
  rotate_left
  · intro w hSw; (try dsimp only at hSw); go_simp; (try with_reducible rfl)
  (try simp only [Act.put, uC4, List.setIfInBounds_toArray, List.set_cons_zero, List.set_cons_succ])
  refine tkW (v := ?_) 5 uC5 rfl (by kernel_rfl) (by kernel_rfl) (by kernel_rfl) (fun _ _ _ h => h) (by rfl) ?_ (by assumption) ?_
  rotate_left
  · intro w hSw; (try dsimp only at hSw); go_simp; (try with_reducible rfl)
  (try simp only [Act.put, uC5, List.setIfInBounds_toArray, List.set_cons_zero, List.set_cons_succ])
  refine tkW (v := ?_) 6 uC6 rfl (by kernel_rfl) (by kernel_rfl) (by kernel_rfl) (fun _ _ _ h => h) (by rfl) ?_ (by assumption) ?_
  rotate_left
  · intro w hSw; (try dsimp only at hSw); go_simp; (try with_reducible rfl)
  (try simp only [Act.put, uC6, List.setIfInBounds_toArray, List.set_cons_zero, List.set_cons_succ])
  refine tkE 7 uC7 rfl (by kernel_rfl) (fun K hK => ?_)
  go_simp
  (refine (CB.out _ (KY.out.trans (by first | assumption | exact Kp.drew _))).mono ?_; rintro e w' ⟨v5, rfl, r5, k1⟩; have k2 := Kp.trans (show Kp Y _ from (by first | assumption | exact Kp.drew _)) k1; clear k1)
  (try go_wp2_with fail)
  refine hK.out _ _ ?_ (fun hHeld1 => ?_)
  · (try dsimp only); exact HY.out _ (by first | assumption | exact Kp.drew _)
  clear hK K hHeld0
  (try simp only [Act.put, uC7, List.setIfInBounds_toArray, List.set_cons_zero, List.set_cons_succ])
  refine tkW (v := ?_) 8 uC8 rfl (by kernel_rfl) (by kernel_rfl) (by kernel_rfl) (fun _ _ _ h => h) (by rfl) ?_ (by assumption) ?_
  rotate_left
  · intro w hSw; (try dsimp only at hSw); go_simp; (try with_reducible rfl)
  (try simp only [Act.put, uC8, List.setIfInBounds_toArray, List.set_cons_zero, List.set_cons_succ])
  refine wpAnyH_done (by kernel_rfl) ?_ _
  obtain ⟨Z, hZ⟩ : ∃ x : World, x = w' := ⟨_, rfl⟩
  subst hZ
  obtain ⟨ad5, c5', rfl⟩ := r5.slice
  have R5 := Lib.hid r5
  have R6 := Lib.hid (R4.out.kp k2)
  have hBZ := heap_block (KY.out.trans k2) hBX
  have KZ := Lib.hid (KWX.out.trans (KY.out.trans k2))
  clear r5 k2 c0 c1 c2 c3 c4 c5 c6 c7
  have r0 : Z.cell? ⟨w.heap.size + 1, 0, none⟩ = some (.bool false) := by simp [World.cell?, hBZ]
  have f0 : Z.frozen? ⟨w.heap.size + 1, 0, none⟩ = false := by simp [World.frozen?, hBZ]
  have r1 : Z.cell? ⟨w.heap.size + 1, 1, none⟩ = some (.int .i64 0) := by simp [World.cell?, hBZ]
  have f1 : Z.frozen? ⟨w.heap.size + 1, 1, none⟩ = false := by simp [World.frozen?, hBZ]
  have r2 : Z.cell? ⟨w.heap.size + 1, 2, none⟩ = some (.slice none 0 0) := by simp [World.cell?, hBZ]
  have f2 : Z.frozen? ⟨w.heap.size + 1, 2, none⟩ = false := by simp [World.frozen?, hBZ]
  have r3 : Z.cell? ⟨w.heap.size + 1, 3, none⟩ = some (.slice none 0 0) := by simp [World.cell?, hBZ]
  have f3 : Z.frozen? ⟨w.heap.size + 1, 3, none⟩ = false := by simp [World.frozen?, hBZ]
  go_wp2
  have RD0 := set4_read hBZ (.bool true) (.int .i64 0) (.slice ad4 (interR ag [(0, greatR bg)]).length c4') (.slice ad5 (interR bg [(leastR ag, 3652424)]).length c5') (Kp.refl _)
  exact bodyPost_ret (v := .agg #[.bool true, .int .i64 0, .slice ad4 (interR ag [(0, greatR bg)]).length c4', .slice ad5 (interR bg [(leastR ag, 3652424)]).length c5']) (by simp [results, Tryz.f72, go_sem, RD0]) rfl ⟨_, _, rfl, ⟨R6.out.off hBZ (set4_cell _ _ _ _ _ _), R5.out.off hBZ (set4_cell _ _ _ _ _ _), sane_i64 (interR_sane _ _), sane_i64 (interR_sane _ _), Nat.le_trans (interR_bd (q := 1) na (by simp)) (by omega), Nat.le_trans (interR_bd (q := 1) nb (by simp)) (by omega)⟩, set4_below KZ.out (w.heap.size + 1) (by omega) _ _ _ _⟩
theorem refTidy_any (f : LF) (va vb : Value) (w : World) (h : LeafOk w f va vb) :
    Calls Tryz.prog 72 #[leafV f va vb] w fun e w' => ∃ va' vb', e = .returned (leafV (lfOf (famR f)) va' vb') ∧ LeafOk w' (lfOf (famR f)) va' vb' ∧ Kp w w' := by
  have hi : I64R (asL f).a ∧ I64R (asL f).b := by
    unfold asL
    split
    · exact ⟨h.ia, h.ib⟩
    · exact ⟨fun r hr => (by cases hr), fun r hr => (by cases hr)⟩
  rw [← tidL_as f]
  obtain ⟨spg, ug, ag, bg, e⟩ : ∃ s u a b, asL f = ⟨s, u, a, b⟩ := ⟨_, _, _, _, rfl⟩
  rw [e] at hi ⊢
  simp only at hi
  by_cases h0 : ag.length = 0
  · rw [show tidL ⟨spg, ug, ag, bg⟩ = lf0 from if_pos (by unfold goneB; simp [h0])]
    exact refTidy_1 spg ug ag bg hi.1 hi.2 f va vb w h e h0
  · rcases Bool.eq_false_or_eq_true spg with hs | hs
    · by_cases h1 : bg.length = 0
      · rw [show tidL ⟨spg, ug, ag, bg⟩ = lf0 from if_pos (by unfold goneB; simp [hs, h1])]
        exact refTidy_3 spg ug ag bg hi.1 hi.2 f va vb w h e h0 hs h1
      · by_cases hg : greatR bg < leastR ag
        · rw [show tidL ⟨spg, ug, ag, bg⟩ = lf0 from if_pos (by unfold goneB; simp [hs, hg])]
          exact refTidy_4 spg ug ag bg hi.1 hi.2 f va vb w h e h0 hs h1 hg
        · have e2 : tidL ⟨spg, ug, ag, bg⟩ = ⟨true, 0, interR ag [(0, greatR bg)], interR bg [(leastR ag, 3652424)]⟩ := by
            unfold tidL
            rw [if_neg, if_pos hs]
            unfold goneB
            rw [decide_eq_false h0, decide_eq_false h1, decide_eq_false hg, hs]
            simp
          rw [e2]
          exact refTidy_5 spg ug ag bg hi.1 hi.2 f va vb w h e h0 hs h1 hg
    · have e2 : tidL ⟨spg, ug, ag, bg⟩ = ⟨false, ug, ag, bg⟩ := by
        unfold tidL
        rw [if_neg, if_neg (by rw [hs]; simp), hs]
        unfold goneB
        rw [decide_eq_false h0, hs]
        simp
      rw [e2]
      exact refTidy_2 spg ug ag bg hi.1 hi.2 f va vb w h e h0 hs
end Go.Proofs.YtjjpnglilalnmaaGreatDoor

namespace Go.Proofs.YtjjpnglilalnmaaGreatDoor
open Go.RowKit
set_option linter.unusedVariables false
set_option linter.unusedSimpArgs false
/-- the four days of one family -/
def four (F : Fam) : List Int := [dLS F, dGS F, dLE F, dGE F]
/-- the four values as the reference has them, of a tidied leaf -/
def fourL (g : LF) : Int × Int × Int × Int := if g.sp = true then (leastR g.a, greatR g.a, leastR g.b, greatR g.b) else (firV g.u (leastR g.a), firV g.u (greatR g.a), lasV g.u (leastR g.a), lasV g.u (greatR g.a))
theorem fourL_fam {F : Fam} (h : FOK F) (h0 : emptyF F = false) : fourL (lfOf F) = (dLS F, dGS F, dLE F, dGE F) ∧ 0 < (lfOf F).a.length ∧ ((lfOf F).sp = true → 0 < (lfOf F).b.length) := by
  cases F with
  | units k s =>
    unfold emptyF at h0
    have h1 := of_decide_eq_false h0
    rw [lfOf_u1 h1]
    exact ⟨rfl, by simp only; omega, fun e => by simp at e⟩
  | span s e =>
    unfold emptyF at h0
    have h1 := of_decide_eq_false h0
    have ss := setB_sane h.1
    obtain ⟨m, hm, _⟩ := h.2.2.1 _ (least_mem ss (by omega))
    rw [lfOf_s1 h1]
    exact ⟨rfl, by simp only; omega, fun _ => mem_pos hm⟩
abbrev eN0 : Oper := { dst := some 29, op := Go.Op.move (Go.Operand.tmp 3), type := 3, pos := "ref.go:15", after := #[], guard := none }
abbrev eN1 : Oper := { dst := some 30, op := Go.Op.move (Go.Operand.tmp 4), type := 3, pos := "ref.go:15", after := #[], guard := none }
abbrev eN2 : Oper := { dst := some 31, op := Go.Op.fieldAddr 51 (Go.Operand.tmp 1) 3, type := 0, pos := "ref.go:15", after := #[], guard := none }
abbrev eN3 : Oper := { dst := some 32, op := Go.Op.load 49 (Go.Operand.tmp 31), type := 49, pos := "ref.go:15", after := #[{ on := 2, ground := Go.Ground.data }], guard := none }
abbrev eN4 : Oper := { dst := some 33, op := Go.Op.indexAddr 49 (Go.Operand.tmp 32) (Go.Operand.const (Go.Value.int Go.IntKind.i64 0)), type := 0, pos := "ref.go:15", after := #[{ on := 3, ground := Go.Ground.data }], guard := none }
abbrev eN5 : Oper := { dst := some 34, op := Go.Op.fieldAddr 70 (Go.Operand.tmp 33) 0, type := 0, pos := "ref.go:15", after := #[{ on := 4, ground := Go.Ground.data }], guard := none }
abbrev eN6 : Oper := { dst := some 35, op := Go.Op.load 3 (Go.Operand.tmp 34), type := 3, pos := "ref.go:15", after := #[{ on := 5, ground := Go.Ground.data }], guard := none }
abbrev eN7 : Oper := { dst := some 36, op := Go.Op.fieldAddr 51 (Go.Operand.tmp 1) 3, type := 0, pos := "ref.go:15", after := #[], guard := none }
abbrev eN8 : Oper := { dst := some 37, op := Go.Op.load 49 (Go.Operand.tmp 36), type := 49, pos := "ref.go:15", after := #[{ on := 7, ground := Go.Ground.data }], guard := none }
abbrev eN9 : Oper := { dst := some 38, op := Go.Op.fieldAddr 51 (Go.Operand.tmp 1) 3, type := 0, pos := "ref.go:15", after := #[], guard := none }
abbrev eN10 : Oper := { dst := some 39, op := Go.Op.load 49 (Go.Operand.tmp 38), type := 49, pos := "ref.go:15", after := #[{ on := 9, ground := Go.Ground.data }], guard := none }
abbrev eN11 : Oper := { dst := some 40, op := Go.Op.call { callee := Go.Callee.builtin Go.Builtin.len, args := #[Go.Operand.tmp 39], argTypes := #[49] }, type := 3, pos := "ref.go:15", after := #[{ on := 10, ground := Go.Ground.data }], guard := none }
abbrev eN12 : Oper := { dst := some 41, op := Go.Op.binOp Go.BinOp.sub 3 (Go.Operand.tmp 40) (Go.Operand.const (Go.Value.int Go.IntKind.i64 1)) 3, type := 3, pos := "ref.go:15", after := #[{ on := 11, ground := Go.Ground.data }], guard := none }
abbrev eN13 : Oper := { dst := some 42, op := Go.Op.indexAddr 49 (Go.Operand.tmp 37) (Go.Operand.tmp 41), type := 0, pos := "ref.go:15", after := #[{ on := 8, ground := Go.Ground.data }, { on := 12, ground := Go.Ground.data }], guard := none }
abbrev eN14 : Oper := { dst := some 43, op := Go.Op.fieldAddr 70 (Go.Operand.tmp 42) 1, type := 0, pos := "ref.go:15", after := #[{ on := 13, ground := Go.Ground.data }], guard := none }
abbrev eN15 : Oper := { dst := some 44, op := Go.Op.load 3 (Go.Operand.tmp 43), type := 3, pos := "ref.go:15", after := #[{ on := 14, ground := Go.Ground.data }], guard := none }
abbrev eN16 : Oper := { dst := some 45, op := Go.Op.build 95 #[(0, Go.Operand.tmp 29), (1, Go.Operand.tmp 30), (2, Go.Operand.tmp 35), (3, Go.Operand.tmp 44)], type := 95, pos := "ref.go:15", after := #[{ on := 0, ground := Go.Ground.data }, { on := 1, ground := Go.Ground.data }, { on := 6, ground := Go.Ground.data }, { on := 15, ground := Go.Ground.data }], guard := none }
abbrev eN17 : Oper := { dst := none, op := Go.Op.store 95 (Go.Operand.tmp 2) (Go.Operand.tmp 45), type := 0, pos := "ref.go:15", after := #[{ on := 16, ground := Go.Ground.data }, { on := 0, ground := Go.Ground.phase }, { on := 1, ground := Go.Ground.phase }, { on := 2, ground := Go.Ground.phase }, { on := 3, ground := Go.Ground.phase }, { on := 4, ground := Go.Ground.phase }, { on := 5, ground := Go.Ground.phase }, { on := 6, ground := Go.Ground.phase }, { on := 7, ground := Go.Ground.phase }, { on := 8, ground := Go.Ground.phase }, { on := 9, ground := Go.Ground.phase }, { on := 10, ground := Go.Ground.phase }, { on := 11, ground := Go.Ground.phase }, { on := 12, ground := Go.Ground.phase }, { on := 13, ground := Go.Ground.phase }, { on := 14, ground := Go.Ground.phase }, { on := 15, ground := Go.Ground.phase }, { on := 16, ground := Go.Ground.phase }], guard := none }
set_option maxHeartbeats 16000000 in
set_option maxRecDepth 100000 in
theorem refEnds_units (k : Int) (s : List R) (va vb : Value) (w : World) (hv : RunsAt w va s) (hb : RunsAt w vb []) (h0 : 0 < s.length) (hn : s.length ≤ 1000) :
    Calls Tryz.prog 73 #[.agg #[.bool false, .int .i64 k, va, vb]] w fun e w' => e = .returned (.agg #[.int .i64 (firV k (leastR s)), .int .i64 (firV k (greatR s)), .int .i64 (lasV k (leastR s)), .int .i64 (lasV k (greatR s))]) ∧ Kp w w' := by
  obtain ⟨ba, oa, c, ev, x0, x1⟩ := ends_at hv h0
  subst ev
  obtain ⟨bd, d, rfl⟩ := hb.slice
  have wt : (s.length : Int) - 1 = ((s.length - 1 : Nat) : Int) := by omega
  have wu : IntKind.i64.wrap ((s.length - 1 : Nat) : Int) = ((s.length - 1 : Nat) : Int) := IntWalk.i64_in _ (by omega)
  have wx : s.length - 1 < s.length := by omega
  have wy : ((s.length - 1 : Nat) : Int) < (s.length : Int) := by omega
  have wv : (0 : Int) ≤ ((s.length - 1 : Nat) : Int) := by omega
  have za := World.block_lt_of_cell? w _ x0
  have hf := fun x w1 => rfirst_any k x w1
  have hl := fun x w1 => rlast_any k x w1
  have HF := Lib.hid hf
  have HL := Lib.hid hl
  clear hf hl hb hv
  generalize leastR s = x at *
  generalize greatR s = y at *
  go_enter Tryz.func73, Tryz.ntmps73
  go_wp2_with fail
  refine (HF.out _ _).mono ?_
  rintro e w' ⟨rfl, rfl⟩
  go_wp2_with fail
  refine (HF.out _ _).mono ?_
  rintro e w' ⟨rfl, rfl⟩
  go_wp2_with fail
  refine (HL.out _ _).mono ?_
  rintro e w' ⟨rfl, rfl⟩
  go_wp2_with fail
  refine (HL.out _ _).mono ?_
  rintro e w' ⟨rfl, rfl⟩
  go_wp2
  exact bodyPost_ret (v := .agg #[.int .i64 (firV k x), .int .i64 (firV k y), .int .i64 (lasV k x), .int .i64 (lasV k y)]) (by simp [results, Tryz.f73, go_sem]) rfl ⟨rfl, (Kp.alloc _ _).trans (Kp.alloc _ _)⟩
set_option maxHeartbeats 16000000 in
set_option maxRecDepth 100000 in
theorem refEnds_span (s t : List R) (va vb : Value) (w : World) (hv : RunsAt w va s) (hb : RunsAt w vb t) (h0 : 0 < s.length) (hn : s.length ≤ 1000) (h1 : 0 < t.length) (hm : t.length ≤ 1000) :
    Calls Tryz.prog 73 #[.agg #[.bool true, .int .i64 0, va, vb]] w fun e w' => e = .returned (.agg #[.int .i64 (leastR s), .int .i64 (greatR s), .int .i64 (leastR t), .int .i64 (greatR t)]) ∧ Kp w w' := by
  obtain ⟨ba, oa, c, ev, x0, x1⟩ := ends_at hv h0
  subst ev
  obtain ⟨bb, ob, d, ev, y0, y1⟩ := ends_at hb h1
  subst ev
  have wt : (s.length : Int) - 1 = ((s.length - 1 : Nat) : Int) := by omega
  have wu : IntKind.i64.wrap ((s.length - 1 : Nat) : Int) = ((s.length - 1 : Nat) : Int) := IntWalk.i64_in _ (by omega)
  have wx : s.length - 1 < s.length := by omega
  have wy : ((s.length - 1 : Nat) : Int) < (s.length : Int) := by omega
  have wv : (0 : Int) ≤ ((s.length - 1 : Nat) : Int) := by omega
  have vt : (t.length : Int) - 1 = ((t.length - 1 : Nat) : Int) := by omega
  have vu : IntKind.i64.wrap ((t.length - 1 : Nat) : Int) = ((t.length - 1 : Nat) : Int) := IntWalk.i64_in _ (by omega)
  have vx : t.length - 1 < t.length := by omega
  have vy : ((t.length - 1 : Nat) : Int) < (t.length : Int) := by omega
  have vv : (0 : Int) ≤ ((t.length - 1 : Nat) : Int) := by omega
  have za := World.block_lt_of_cell? w _ x0
  have zb := World.block_lt_of_cell? w _ y0
  have za' : ba ≠ w.heap.size ∧ ba ≠ w.heap.size + 1 := by simp at za; omega
  have zb' : bb ≠ w.heap.size ∧ bb ≠ w.heap.size + 1 := by simp at zb; omega
  clear hb hv
  generalize leastR s = x at *
  generalize greatR s = y at *
  generalize leastR t = p at *
  generalize greatR t = q at *
  obtain ⟨W1, hW1⟩ : ∃ x, x = w.alloc (.cells #[.bool true, .int .i64 0, .slice (some ⟨ba, oa, none⟩) s.length c, .slice (some ⟨bb, ob, none⟩) t.length d] 51) := ⟨_, rfl⟩
  have k1 : Kp w W1 := by rw [hW1]; exact Kp.alloc _ _
  have b0 : W1.cell? ⟨w.heap.size, 0, none⟩ = some (.bool true) := by rw [hW1]; simp
  have b1 : W1.cell? ⟨w.heap.size, 1, none⟩ = some (.int .i64 0) := by rw [hW1]; simp
  have b2 : W1.cell? ⟨w.heap.size, 2, none⟩ = some (.slice (some ⟨ba, oa, none⟩) s.length c) := by rw [hW1]; simp
  have b3 : W1.cell? ⟨w.heap.size, 3, none⟩ = some (.slice (some ⟨bb, ob, none⟩) t.length d) := by rw [hW1]; simp
  have hs : W1.heap.size = w.heap.size + 1 := by rw [hW1]; simp
  have KS := Lib.hid (fun w' (k : Kp W1 w') => show w'.cell? ⟨w.heap.size, 0, none⟩ = some (.bool true) ∧ w'.cell? ⟨w.heap.size, 1, none⟩ = some (.int .i64 0) ∧ w'.cell? ⟨w.heap.size, 2, none⟩ = some (.slice (some ⟨ba, oa, none⟩) s.length c) ∧ w'.cell? ⟨w.heap.size, 3, none⟩ = some (.slice (some ⟨bb, ob, none⟩) t.length d) ∧ w'.cell? ⟨ba, oa, none⟩ = some (.int .i64 x) ∧ w'.cell? ⟨ba, oa + (s.length - 1) * 2 + 1, none⟩ = some (.int .i64 y) ∧ w'.cell? ⟨bb, ob, none⟩ = some (.int .i64 p) ∧ w'.cell? ⟨bb, ob + (t.length - 1) * 2 + 1, none⟩ = some (.int .i64 q) ∧ Kp W1 w' from ⟨cell_up k b0, cell_up k b1, cell_up k b2, cell_up k b3, cell_up (k1.trans k) x0, cell_up (k1.trans k) x1, cell_up (k1.trans k) y0, cell_up (k1.trans k) y1, k⟩)
  obtain ⟨W0, hW0⟩ : ∃ x, x = W1.alloc (.cells #[.int .i64 0, .int .i64 0, .int .i64 0, .int .i64 0] 95) := ⟨_, rfl⟩
  have kW := Lib.hid (show Kp W1 W0 by rw [hW0]; exact Kp.alloc _ _)
  have hB : W0.heap[w.heap.size + 1]? = some (.cells #[.int .i64 0, .int .i64 0, .int .i64 0, .int .i64 0] 95 (0, 0)) := by rw [hW0]; exact heap_at _ _ _ hs
  have K1 := Lib.hid k1
  have HW := Lib.hid (show W0 = (w.alloc (.cells #[.bool true, .int .i64 0, .slice (some ⟨ba, oa, none⟩) s.length c, .slice (some ⟨bb, ob, none⟩) t.length d] 51)).alloc (.cells #[.int .i64 0, .int .i64 0, .int .i64 0, .int .i64 0] 95) by rw [hW0, hW1])
  have HS := Lib.hid hs
  clear hW1 hW0 hs k1 b0 b1 b2 b3
  go_enter Tryz.func73, Tryz.ntmps73
  go_wp2_with fail
  rw [← HW.out]
  obtain ⟨c0, c1, c2, c3, x0', x1', y0', y1', _⟩ := KS.out W0 kW.out
  obtain ⟨X, hX⟩ : ∃ x, x = W0.drew := ⟨_, rfl⟩
  have hBX : X.heap[w.heap.size + 1]? = some (.cells #[.int .i64 0, .int .i64 0, .int .i64 0, .int .i64 0] 95 (0, 0)) := by rw [hX]; exact hB
  have kX := Lib.hid (show Kp W1 X by rw [hX]; exact kW.out.trans (Kp.drew _))
  have r0 : X.cell? ⟨w.heap.size + 1, 0, none⟩ = some (.int .i64 0) := by simp [World.cell?, hBX]
  have r1 : X.cell? ⟨w.heap.size + 1, 1, none⟩ = some (.int .i64 0) := by simp [World.cell?, hBX]
  have r2 : X.cell? ⟨w.heap.size + 1, 2, none⟩ = some (.int .i64 0) := by simp [World.cell?, hBX]
  have r3 : X.cell? ⟨w.heap.size + 1, 3, none⟩ = some (.int .i64 0) := by simp [World.cell?, hBX]
  have f0 : X.frozen? ⟨w.heap.size + 1, 0, none⟩ = false := by simp [World.frozen?, hBX]
  have f1 : X.frozen? ⟨w.heap.size + 1, 1, none⟩ = false := by simp [World.frozen?, hBX]
  have f2 : X.frozen? ⟨w.heap.size + 1, 2, none⟩ = false := by simp [World.frozen?, hBX]
  have f3 : X.frozen? ⟨w.heap.size + 1, 3, none⟩ = false := by simp [World.frozen?, hBX]
  have HBX := Lib.hid hBX
  have hsX := kX.out.size
  clear hB hBX
  refine wp_region_held_drew (S := fun w' => w'.cell? ⟨w.heap.size, 0, none⟩ = some (.bool true) ∧ w'.cell? ⟨w.heap.size, 1, none⟩ = some (.int .i64 0) ∧ w'.cell? ⟨w.heap.size, 2, none⟩ = some (.slice (some ⟨ba, oa, none⟩) s.length c) ∧ w'.cell? ⟨w.heap.size, 3, none⟩ = some (.slice (some ⟨bb, ob, none⟩) t.length d) ∧ w'.cell? ⟨ba, oa, none⟩ = some (.int .i64 x) ∧ w'.cell? ⟨ba, oa + (s.length - 1) * 2 + 1, none⟩ = some (.int .i64 y) ∧ w'.cell? ⟨bb, ob, none⟩ = some (.int .i64 p) ∧ w'.cell? ⟨bb, ob + (t.length - 1) * 2 + 1, none⟩ = some (.int .i64 q) ∧ Kp W1 w') (by kernel_rfl) ?_ (fun hHeld0 => ?_)
  · rw [← hX]; exact KS.out _ kX.out
  rw [← hX] at hHeld0 ⊢
  clear hX
  refine tkW (v := ?_) 0 eN0 rfl (by kernel_rfl) (by kernel_rfl) (by kernel_rfl) (fun _ _ _ h => h) (by rfl) ?_ (by assumption) ?_
  rotate_left
  · intro w hSw; (try dsimp only at hSw); go_simp; (try with_reducible rfl)
  (try simp only [Act.put, eN0, List.setIfInBounds_toArray, List.set_cons_zero, List.set_cons_succ])
  refine tkW (v := ?_) 1 eN1 rfl (by kernel_rfl) (by kernel_rfl) (by kernel_rfl) (fun _ _ _ h => h) (by rfl) ?_ (by assumption) ?_
  rotate_left
  · intro w hSw; (try dsimp only at hSw); go_simp; (try with_reducible rfl)
  (try simp only [Act.put, eN1, List.setIfInBounds_toArray, List.set_cons_zero, List.set_cons_succ])
  refine tkW (v := ?_) 2 eN2 rfl (by kernel_rfl) (by kernel_rfl) (by kernel_rfl) (fun _ _ _ h => h) (by rfl) ?_ (by assumption) ?_
  rotate_left
  · intro w hSw; (try dsimp only at hSw); go_simp; (try with_reducible rfl)
  (try simp only [Act.put, eN2, List.setIfInBounds_toArray, List.set_cons_zero, List.set_cons_succ])
  refine tkW (v := ?_) 3 eN3 rfl (by kernel_rfl) (by kernel_rfl) (by kernel_rfl) (fun _ _ _ h => h) (by rfl) ?_ (by assumption) ?_
  rotate_left
  · intro w hSw; (try dsimp only at hSw); go_simp; (try with_reducible rfl)
  (try simp only [Act.put, eN3, List.setIfInBounds_toArray, List.set_cons_zero, List.set_cons_succ])
  refine tkW (v := ?_) 4 eN4 rfl (by kernel_rfl) (by kernel_rfl) (by kernel_rfl) (fun _ _ _ h => h) (by rfl) ?_ (by assumption) ?_
  rotate_left
  · intro w hSw; (try dsimp only at hSw); go_simp; (try with_reducible rfl)
  (try simp only [Act.put, eN4, List.setIfInBounds_toArray, List.set_cons_zero, List.set_cons_succ])
  refine tkW (v := ?_) 5 eN5 rfl (by kernel_rfl) (by kernel_rfl) (by kernel_rfl) (fun _ _ _ h => h) (by rfl) ?_ (by assumption) ?_
  rotate_left
  · intro w hSw; (try dsimp only at hSw); go_simp; (try with_reducible rfl)
  (try simp only [Act.put, eN5, List.setIfInBounds_toArray, List.set_cons_zero, List.set_cons_succ])
  refine tkW (v := ?_) 6 eN6 rfl (by kernel_rfl) (by kernel_rfl) (by kernel_rfl) (fun _ _ _ h => h) (by rfl) ?_ (by assumption) ?_
  rotate_left
  · intro w hSw; (try dsimp only at hSw); go_simp; (try with_reducible rfl)
  (try simp only [Act.put, eN6, List.setIfInBounds_toArray, List.set_cons_zero, List.set_cons_succ])
  refine tkW (v := ?_) 7 eN7 rfl (by kernel_rfl) (by kernel_rfl) (by kernel_rfl) (fun _ _ _ h => h) (by rfl) ?_ (by assumption) ?_
  rotate_left
  · intro w hSw; (try dsimp only at hSw); go_simp; (try with_reducible rfl)
  (try simp only [Act.put, eN7, List.setIfInBounds_toArray, List.set_cons_zero, List.set_cons_succ])
  refine tkW (v := ?_) 8 eN8 rfl (by kernel_rfl) (by kernel_rfl) (by kernel_rfl) (fun _ _ _ h => h) (by rfl) ?_ (by assumption) ?_
  rotate_left
  · intro w hSw; (try dsimp only at hSw); go_simp; (try with_reducible rfl)
  (try simp only [Act.put, eN8, List.setIfInBounds_toArray, List.set_cons_zero, List.set_cons_succ])
  refine tkW (v := ?_) 9 eN9 rfl (by kernel_rfl) (by kernel_rfl) (by kernel_rfl) (fun _ _ _ h => h) (by rfl) ?_ (by assumption) ?_
  rotate_left
  · intro w hSw; (try dsimp only at hSw); go_simp; (try with_reducible rfl)
  (try simp only [Act.put, eN9, List.setIfInBounds_toArray, List.set_cons_zero, List.set_cons_succ])
  refine tkW (v := ?_) 10 eN10 rfl (by kernel_rfl) (by kernel_rfl) (by kernel_rfl) (fun _ _ _ h => h) (by rfl) ?_ (by assumption) ?_
  rotate_left
  · intro w hSw; (try dsimp only at hSw); go_simp; (try with_reducible rfl)
  (try simp only [Act.put, eN10, List.setIfInBounds_toArray, List.set_cons_zero, List.set_cons_succ])
  refine tkW (v := ?_) 11 eN11 rfl (by kernel_rfl) (by kernel_rfl) (by kernel_rfl) (fun _ _ _ h => h) (by rfl) ?_ (by assumption) ?_
  rotate_left
  · intro w hSw; (try dsimp only at hSw); go_simp; (try with_reducible rfl)
  (try simp only [Act.put, eN11, List.setIfInBounds_toArray, List.set_cons_zero, List.set_cons_succ])
  refine tkW (v := ?_) 12 eN12 rfl (by kernel_rfl) (by kernel_rfl) (by kernel_rfl) (fun _ _ _ h => h) (by rfl) ?_ (by assumption) ?_
  rotate_left
  · intro w hSw; (try dsimp only at hSw); go_simp; (try with_reducible rfl)
  (try simp only [Act.put, eN12, List.setIfInBounds_toArray, List.set_cons_zero, List.set_cons_succ])
  refine tkW (v := ?_) 13 eN13 rfl (by kernel_rfl) (by kernel_rfl) (by kernel_rfl) (fun _ _ _ h => h) (by rfl) ?_ (by assumption) ?_
  rotate_left
  · intro w hSw; (try dsimp only at hSw); go_simp; (try with_reducible rfl)
  (try simp only [Act.put, eN13, List.setIfInBounds_toArray, List.set_cons_zero, List.set_cons_succ])
  refine tkW (v := ?_) 14 eN14 rfl (by kernel_rfl) (by kernel_rfl) (by kernel_rfl) (fun _ _ _ h => h) (by rfl) ?_ (by assumption) ?_
  rotate_left
  · intro w hSw; (try dsimp only at hSw); go_simp; (try with_reducible rfl)
  (try simp only [Act.put, eN14, List.setIfInBounds_toArray, List.set_cons_zero, List.set_cons_succ])
  refine tkW (v := ?_) 15 eN15 rfl (by kernel_rfl) (by kernel_rfl) (by kernel_rfl) (fun _ _ _ h => h) (by rfl) ?_ (by assumption) ?_
  rotate_left
  · intro w hSw; (try dsimp only at hSw); go_simp; (try with_reducible rfl)
  (try simp only [Act.put, eN15, List.setIfInBounds_toArray, List.set_cons_zero, List.set_cons_succ])
  refine tkW (v := ?_) 16 eN16 rfl (by kernel_rfl) (by kernel_rfl) (by kernel_rfl) (fun _ _ _ h => h) (by rfl) ?_ (by assumption) ?_
  rotate_left
  · intro w hSw; (try dsimp only at hSw); go_simp; (try with_reducible rfl)
  (try simp only [Act.put, eN16, List.setIfInBounds_toArray, List.set_cons_zero, List.set_cons_succ])
  refine tkE 17 eN17 rfl (by kernel_rfl) (fun K hK => ?_)
  go_simp
  skip
  (try go_wp2_with fail)
  refine hK.out _ _ ?_ (fun hHeld1 => ?_)
  · (try dsimp only); first | exact KS.out _ kX.out | exact KS.out _ (set4_below kX.out (w.heap.size + 1) (Nat.le_of_eq HS.out) _ _ _ _)
  clear hK K hHeld0
  (try simp only [Act.put, eN17, List.setIfInBounds_toArray, List.set_cons_zero, List.set_cons_succ])
  refine wpAnyH_done (by kernel_rfl) ?_ _
  have RD0 := set4_read HBX.out (.int .i64 x) (.int .i64 y) (.int .i64 p) (.int .i64 q) (Kp.refl _)
  go_wp2
  exact bodyPost_ret (v := .agg #[.int .i64 x, .int .i64 y, .int .i64 p, .int .i64 q]) (by simp [results, Tryz.f73, go_sem, RD0]) rfl ⟨rfl, K1.out.trans (set4_below kX.out (w.heap.size + 1) (Nat.le_of_eq HS.out) _ _ _ _)⟩
end Go.Proofs.YtjjpnglilalnmaaGreatDoor

namespace Go.Proofs.YtjjpnglilalnmaaGreatDoor
open Go.RowKit
set_option linter.unusedVariables false
set_option linter.unusedSimpArgs false
theorem set1_heap {w : World} {B : Nat} {t : TypeId} {c : Array Value} {fr : Nat × Nat} (hB : w.heap[B]? = some (.cells c t fr)) (o : Nat) (x : Value) : (w.setCell ⟨B, o, none⟩ x).heap[B]? = some (.cells (c.setIfInBounds o x) t fr) := by
  unfold World.setCell
  simp only
  rw [Array.getElem?_modify, if_pos rfl, hB]
  rfl
theorem set4_heap {w : World} {B : Nat} {t : TypeId} {y0 y1 y2 y3 : Value} {fr : Nat × Nat} (hB : w.heap[B]? = some (.cells #[y0, y1, y2, y3] t fr)) (x0 x1 x2 x3 : Value) :
    ((((w.setCell ⟨B, 0, none⟩ x0).setCell ⟨B, 1, none⟩ x1).setCell ⟨B, 2, none⟩ x2).setCell ⟨B, 3, none⟩ x3).heap[B]? = some (.cells #[x0, x1, x2, x3] t fr) :=
  set1_heap (set1_heap (set1_heap (set1_heap hB 0 x0) 1 x1) 2 x2) 3 x3
theorem set1_other {w : World} {B C : Nat} (h : C ≠ B) (o : Nat) (x : Value) : (w.setCell ⟨B, o, none⟩ x).heap[C]? = w.heap[C]? := by
  unfold World.setCell
  simp only
  rw [Array.getElem?_modify, if_neg (Ne.symm h)]
theorem set4_other {w : World} {B C : Nat} (h : C ≠ B) (x0 x1 x2 x3 : Value) :
    ((((w.setCell ⟨B, 0, none⟩ x0).setCell ⟨B, 1, none⟩ x1).setCell ⟨B, 2, none⟩ x2).setCell ⟨B, 3, none⟩ x3).heap[C]? = w.heap[C]? := by
  rw [set1_other h, set1_other h, set1_other h, set1_other h]
abbrev I4 := Int × Int × Int × Int
def envST (l : List LF) (k : Nat) : I4 := ((envF dLS min (l.take k)).1, (envF dGS max (l.take k)).1, (envF dLE min (l.take k)).1, (envF dGE max (l.take k)).1)
def envAN (l : List LF) (k : Nat) : Bool := anyB (l.take k)
theorem env_two (l : List LF) (d : Fam → Int) (pk : Int → Int → Int) (h : pk = min ∨ pk = max) : (envF d pk l).2 = if anyB l = true then 0 else 9 := by
  rcases Bool.eq_false_or_eq_true (anyB l) with a | a
  · rw [if_pos a]
    rcases h with rfl | rfl
    · exact (env_min d l a).1
    · exact (env_max d l a).1
  · rw [if_neg (by rw [a]; decide), env_nil d pk l a]
theorem envAN_next {l : List LF} {k : Nat} (h : k < l.length) : envAN l (k + 1) = (envAN l k || fullB (lat l k)) := by
  unfold envAN anyB
  rw [take_lat l k h, List.any_append]
  simp
theorem envST_no {l : List LF} {k : Nat} (h : k < l.length) (g : fullB (lat l k) = false) : envST l (k + 1) = envST l k := by
  unfold envST
  rw [envF_next _ _ l k h, envF_next _ _ l k h, envF_next _ _ l k h, envF_next _ _ l k h, envS_no _ _ _ _ g, envS_no _ _ _ _ g, envS_no _ _ _ _ g, envS_no _ _ _ _ g]
theorem envST_first {l : List LF} {k : Nat} (h : k < l.length) (g : fullB (lat l k) = true) (a : envAN l k = false) : envST l (k + 1) = (dLS (famR (lat l k)), dGS (famR (lat l k)), dLE (famR (lat l k)), dGE (famR (lat l k))) := by
  unfold envST
  rw [envF_next _ _ l k h, envF_next _ _ l k h, envF_next _ _ l k h, envF_next _ _ l k h, envS_yes _ _ _ _ g, envS_yes _ _ _ _ g, envS_yes _ _ _ _ g, envS_yes _ _ _ _ g]
  unfold envAN at a
  simp only [env_two (l.take k) dLS min (.inl rfl), env_two (l.take k) dGS max (.inr rfl), env_two (l.take k) dLE min (.inl rfl), env_two (l.take k) dGE max (.inr rfl), a]
  rfl
theorem envST_more {l : List LF} {k : Nat} (h : k < l.length) (g : fullB (lat l k) = true) (a : envAN l k = true) : envST l (k + 1) = (min (envST l k).1 (dLS (famR (lat l k))), max (envST l k).2.1 (dGS (famR (lat l k))), min (envST l k).2.2.1 (dLE (famR (lat l k))), max (envST l k).2.2.2 (dGE (famR (lat l k)))) := by
  unfold envST
  rw [envF_next _ _ l k h, envF_next _ _ l k h, envF_next _ _ l k h, envF_next _ _ l k h, envS_yes _ _ _ _ g, envS_yes _ _ _ _ g, envS_yes _ _ _ _ g, envS_yes _ _ _ _ g]
  unfold envAN at a
  simp only [env_two (l.take k) dLS min (.inl rfl), env_two (l.take k) dGS max (.inr rfl), env_two (l.take k) dLE min (.inl rfl), env_two (l.take k) dGE max (.inr rfl), a]
  rfl
/-- the ends of a tidied leaf that has pairs -/
theorem refEnds_any (F : Fam) (va vb : Value) (w : World) (hF : FOK F) (h0 : emptyF F = false) (ok : LeafOk w (lfOf F) va vb) :
    Calls Tryz.prog 73 #[leafV (lfOf F) va vb] w fun e w' => e = .returned (.agg #[.int .i64 (dLS F), .int .i64 (dGS F), .int .i64 (dLE F), .int .i64 (dGE F)]) ∧ Kp w w' := by
  obtain ⟨e, p1, p2⟩ := fourL_fam hF h0
  have hb := leafB_lfOf hF
  obtain ⟨ra, rb, ia, ib, na, nb⟩ := ok
  generalize lfOf F = g at *
  unfold fourL at e
  rcases Bool.eq_false_or_eq_true g.sp with hs | hs
  · rw [if_pos hs] at e
    obtain ⟨e1, e2⟩ := Prod.mk.inj e
    obtain ⟨e2, e3⟩ := Prod.mk.inj e2
    obtain ⟨e3, e4⟩ := Prod.mk.inj e3
    have hu := (leafB_span hb hs).1
    have := refEnds_span g.a g.b va vb w ra rb p1 na (p2 hs) nb
    rw [e1, e2, e3, e4] at this
    unfold leafV
    rw [hs, hu]
    exact this
  · rw [if_neg (by rw [hs]; decide)] at e
    obtain ⟨e1, e2⟩ := Prod.mk.inj e
    obtain ⟨e2, e3⟩ := Prod.mk.inj e2
    obtain ⟨e3, e4⟩ := Prod.mk.inj e3
    have hu := (leafB_units hb hs).2.2
    rw [hu] at rb
    have := refEnds_units g.u g.a va vb w ra rb p1 na
    rw [e1, e2, e3, e4] at this
    unfold leafV
    rw [hs]
    exact this
end Go.Proofs.YtjjpnglilalnmaaGreatDoor

namespace Go.Proofs.YtjjpnglilalnmaaGreatDoor
open Go.RowKit
set_option linter.unusedVariables false
set_option linter.unusedSimpArgs false
set_option maxHeartbeats 16000000 in
set_option maxRecDepth 100000 in
theorem refAll_any (v : Value) (l : List LF) (w : World) (hv : LeavesAt w v l) (hl : LsOk l) :
    Calls Tryz.prog 61 #[v] w fun e w' => e = .returned (.tuple #[.agg #[.int .i64 (envST l l.length).1, .int .i64 (envST l l.length).2.1, .int .i64 (envST l l.length).2.2.1, .int .i64 (envST l l.length).2.2.2], .bool (envAN l l.length)]) ∧ Kp w w' := by
  have hm := hv.len
  unfold maxLen at hm
  obtain ⟨ad, cp, rfl⟩ := hv.slice
  have HV := Lib.hid hv
  have HL := Lib.hid hl
  have A0 := Lib.hid (show envAN l 0 = false from rfl)
  have S0 := Lib.hid (show envST l 0 = (0, 0, 0, 0) from rfl)
  have AN := Lib.hid (fun k (h : k < l.length) => envAN_next h)
  have SN := Lib.hid (fun k (h : k < l.length) g => envST_no h g)
  have SF := Lib.hid (fun k (h : k < l.length) g a => envST_first h g a)
  have SM := Lib.hid (fun k (h : k < l.length) g a => envST_more h g a)
  clear hv hl
  generalize envAN l = AA at *
  generalize envST l = SS at *
  obtain ⟨W0, hW⟩ : ∃ x, x = (w.alloc (.cells #[.int .i64 0, .int .i64 0, .int .i64 0, .int .i64 0] 95)).alloc (.cells #[.int .i64 0, .int .i64 0, .int .i64 0, .int .i64 0] 95) := ⟨_, rfl⟩
  have k0 : Kp w W0 := by rw [hW]; exact (Kp.alloc _ _).trans (Kp.alloc _ _)
  have h2 : W0.heap[w.heap.size]? = some (.cells #[.int .i64 0, .int .i64 0, .int .i64 0, .int .i64 0] 95 (0, 0)) := by rw [hW]; exact heap_block (Kp.alloc _ _) (heap_at _ _ _ rfl)
  have h4 : W0.heap[w.heap.size + 1]? = some (.cells #[.int .i64 0, .int .i64 0, .int .i64 0, .int .i64 0] 95 (0, 0)) := by rw [hW]; exact heap_at _ _ _ (by simp)
  have K0 := Lib.hid k0
  have H2 := Lib.hid h2
  have H4 := Lib.hid h4
  have HW := Lib.hid hW
  clear hW k0 h2 h4
  go_enter Tryz.func61, Tryz.ntmps61
  go_wp2_with fail
  rw [← HW.out]
  go_loopw [5, 6] (fun q i wr => ∃ (k : Nat) (x0 x1 x2 x3 : Int), k ≤ l.length ∧ i = .int .i64 k ∧ q = .bool (AA k) ∧ Hid (SS k = (x0, x1, x2, x3)) ∧ Hid (wr.heap[w.heap.size]? = some (.cells #[.int .i64 0, .int .i64 0, .int .i64 0, .int .i64 0] 95 (0, 0))) ∧ Hid (wr.heap[w.heap.size + 1]? = some (.cells #[.int .i64 x0, .int .i64 x1, .int .i64 x2, .int .i64 x3] 95 (0, 0))) ∧ Hid (Kp w wr)) (fun _ i _ => l.length - (intOf i).toNat)
  case atStart => exact ⟨0, 0, 0, 0, 0, Nat.zero_le _, rfl, by rw [A0.out], S0, H2, H4, K0⟩
  case round =>
    obtain ⟨k, x0, x1, x2, x3, hk, rfl, rfl, HS, G2, G4, J⟩ := hrel
    by_cases hlt : k < l.length
    · rcases HV.out.kp J.out with ⟨_, _, _, e⟩ | ⟨b0, off, cap, ev, hc, hmx, hx⟩
      · rw [e] at hlt; simp at hlt
      cases ev
      obtain ⟨va, vb, d0, d1, d2, d3, ra, rb⟩ := hx k hlt
      have LOK := HL.out _ (lat_mem hlt)
      obtain ⟨f, hf⟩ : ∃ f, lat l k = f := ⟨_, rfl⟩
      rw [hf] at d0 d1 ra rb
      (try rw [hf] at LOK)
      obtain ⟨sp, u, a, b⟩ := f
      simp only at d0 d1 ra rb
      (try simp only at LOK)
      obtain ⟨aa, ca, rfl⟩ := ra.slice
      obtain ⟨ab, cb, rfl⟩ := rb.slice
      have HF := Lib.hid hf
      have z1 : (k : Int) < (l.length : Int) := by omega
      have z2 : (0 : Int) ≤ (k : Int) := by omega
      clear hx hc hmx hf
      have ok : LeafOk wr ⟨sp, u, a, b⟩ _ _ := ⟨ra, rb, LOK.1, LOK.2.1, LOK.2.2.1, LOK.2.2.2⟩
      have C := Lib.hid (fun w1 (kk : Kp wr w1) => refTidy_any ⟨sp, u, a, b⟩ _ _ w1 (ok.kp kk))
      have fk := Lib.hid (famR_ok ⟨sp, u, a, b⟩)
      have an := AN.out k hlt
      have sn := SN.out k hlt
      have sf := SF.out k hlt
      have sm := SM.out k hlt
      rw [HF.out] at an sn sf sm
      rw [HS.out] at sn sm
      unfold fullB at an sn sf sm
      simp only [leafV] at C
      generalize famR ⟨sp, u, a, b⟩ = F at *
      have ll := lfOf_len F
      have NA := Lib.hid an
      have NS := Lib.hid sn
      have NF := Lib.hid sf
      have NM := Lib.hid sm
      clear ra rb ok an sn sf sm
      have CE := Lib.hid (fun va vb w1 h0 (ok : LeafOk w1 (lfOf F) va vb) => refEnds_any F va vb w1 fk.out h0 ok)
      have hls : (lfOf F).a.length ≤ 1000 ∨ True := .inr trivial
      generalize lfOf F = g at *
      obtain ⟨gsp, gu, ga, gb⟩ := g
      simp only at ll
      have KR := Lib.hid (Kp.refl wr)
      go_wp2_with fail
      refine (C.out _ (by first | with_reducible exact KR.out | with_reducible exact KR.out.trans (Kp.alloc _ _) | with_reducible exact (KR.out.trans (Kp.alloc _ _)).trans (Kp.alloc _ _) | with_reducible exact ((KR.out.trans (Kp.alloc _ _)).trans (Kp.alloc _ _)).trans (Kp.alloc _ _) | with_reducible exact KR.out.trans (Kp.drew _) | with_reducible exact KR.out.trans (Kp.drewN _ _))).mono ?_
      rintro e w1 ⟨va, vb, rfl, okg, kk⟩
      obtain ⟨aa', ca', rfl⟩ := okg.a.slice
      obtain ⟨ab', cb', rfl⟩ := okg.b.slice
      have kz : Kp wr w1 := (show Kp wr _ from (by first | with_reducible exact KR.out | with_reducible exact KR.out.trans (Kp.alloc _ _) | with_reducible exact (KR.out.trans (Kp.alloc _ _)).trans (Kp.alloc _ _) | with_reducible exact ((KR.out.trans (Kp.alloc _ _)).trans (Kp.alloc _ _)).trans (Kp.alloc _ _) | with_reducible exact KR.out.trans (Kp.drew _) | with_reducible exact KR.out.trans (Kp.drewN _ _))).trans kk
      have K1 := Lib.hid kz
      have G21 := Lib.hid (heap_block kz G2.out)
      have G41 := Lib.hid (heap_block kz G4.out)
      have J1 := Lib.hid (J.out.trans kz)
      have OKG := Lib.hid okg
      have s4 := (Array.getElem?_eq_some_iff.1 G41.out).1
      have zz : ¬ w.heap.size + 1 = w1.heap.size := by omega
      simp only [leafV]
      clear kz kk okg d0 d1 d2 d3 C
      cases hE : emptyF F with
      | true =>
        have q0 : ((ga.length : Int) == 0) = true := by
          rw [hE] at ll
          rw [of_decide_eq_true ll.symm]
          rfl
        have a1 := NA.out
        have s1 := NS.out (by rw [hE]; rfl)
        rw [hE] at a1
        have a2 := Lib.hid (show AA (k + 1) = AA k by rw [a1]; simp)
        have s2 := Lib.hid s1
        clear a1 s1 hE ll
        have KA1 := Kp.alloc w1 (.cells #[.bool gsp, .int .i64 gu, .slice aa' ga.length ca', .slice ab' gb.length cb'] 51)
        have E2 := Lib.hid (heap_block KA1 G21.out)
        have E4 := Lib.hid (heap_block KA1 G41.out)
        have EJ := Lib.hid (J1.out.trans KA1)
        clear KA1
        go_wp2
        go_roundw
        case rel => exact ⟨k + 1, _, _, _, _, by omega, by go_num, by rw [a2.out], s2, E2, E4, EJ⟩
        case measure => simp [intOf]; omega
      | false =>
        have q0 : ((ga.length : Int) == 0) = false := by
          rw [hE] at ll
          have := of_decide_eq_false ll.symm
          exact beq_eq_false_iff_ne.2 (by omega)
        have HE := Lib.hid hE
        have a1 := NA.out
        rw [hE] at a1
        have a2 := Lib.hid (show AA (k + 1) = true by rw [a1]; simp)
        have n1 := NF.out (by rw [hE]; rfl)
        have n2 := NM.out (by rw [hE]; rfl)
        have M1 := Lib.hid n1
        have M2 := Lib.hid n2
        simp only [leafV] at CE
        obtain ⟨V, hV⟩ : ∃ x, x = w1.alloc (.cells #[.bool gsp, .int .i64 gu, .slice aa' ga.length ca', .slice ab' gb.length cb'] 51) := ⟨_, rfl⟩
        have ka : Kp w1 V := by rw [hV]; exact Kp.alloc _ _
        have KV := Lib.hid ka
        have HV2 := Lib.hid hV
        have OKV := Lib.hid (OKG.out.kp ka)
        have ZV := Lib.hid (Kp.refl V)
        clear hV ka a1 n1 n2 hE ll
        go_wp2_with fail
        rw [← HV2.out]
        refine (CE.out _ _ _ HE.out OKV.out).mono ?_
        rintro e w2 ⟨rfl, kk⟩
        have kz := KV.out.trans kk
        have G22 := Lib.hid (heap_block kz G21.out)
        have G42 := Lib.hid (heap_block kz G41.out)
        have J2 := Lib.hid (J1.out.trans kz)
        clear kk kz
        generalize dLS F = e0 at *
        generalize dGS F = e1' at *
        generalize dLE F = e2' at *
        generalize dGE F = e3 at *
        have rc0 : w2.cell? ⟨w.heap.size + 1, 0, none⟩ = some (.int .i64 x0) := by simp [World.cell?, G42.out]
        have rf0 : w2.frozen? ⟨w.heap.size + 1, 0, none⟩ = false := by simp [World.frozen?, G42.out]
        have rc1 : w2.cell? ⟨w.heap.size + 1, 1, none⟩ = some (.int .i64 x1) := by simp [World.cell?, G42.out]
        have rf1 : w2.frozen? ⟨w.heap.size + 1, 1, none⟩ = false := by simp [World.frozen?, G42.out]
        have rc2 : w2.cell? ⟨w.heap.size + 1, 2, none⟩ = some (.int .i64 x2) := by simp [World.cell?, G42.out]
        have rf2 : w2.frozen? ⟨w.heap.size + 1, 2, none⟩ = false := by simp [World.frozen?, G42.out]
        have rc3 : w2.cell? ⟨w.heap.size + 1, 3, none⟩ = some (.int .i64 x3) := by simp [World.cell?, G42.out]
        have rf3 : w2.frozen? ⟨w.heap.size + 1, 3, none⟩ = false := by simp [World.frozen?, G42.out]
        have zB := (Array.getElem?_eq_some_iff.1 G42.out).1
        have zN : ¬ w.heap.size + 1 = w2.heap.size := by omega
        have zM : ¬ w2.heap.size = w.heap.size + 1 := by omega
        have zO : w.heap.size ≠ w.heap.size + 1 := by omega
        cases hA : AA k with
        | false =>
          have M3 := Lib.hid (M1.out hA)
          clear hA M1 M2
          have hb4 := heap_block (Kp.alloc _ (.cells #[.int .i64 e0, .int .i64 e1', .int .i64 e2', .int .i64 e3] 95)) (set4_heap (set4_heap G42.out (.int .i64 e0) (.int .i64 e1') (.int .i64 e2') (.int .i64 e3)) (.int .i64 e0) (.int .i64 e1') (.int .i64 e2') (.int .i64 e3))
          have hb2 := heap_block (Kp.alloc _ (.cells #[.int .i64 e0, .int .i64 e1', .int .i64 e2', .int .i64 e3] 95)) (((set4_other zO (.int .i64 e0) (.int .i64 e1') (.int .i64 e2') (.int .i64 e3)).trans (set4_other zO (.int .i64 e0) (.int .i64 e1') (.int .i64 e2') (.int .i64 e3))).trans G22.out)
          have B4 := Lib.hid hb4
          have B2 := Lib.hid hb2
          have JJ := Lib.hid ((set4_below (set4_below J2.out (w.heap.size + 1) (by omega) (.int .i64 e0) (.int .i64 e1') (.int .i64 e2') (.int .i64 e3)) (w.heap.size + 1) (by omega) (.int .i64 e0) (.int .i64 e1') (.int .i64 e2') (.int .i64 e3)).trans (Kp.alloc _ (.cells #[.int .i64 e0, .int .i64 e1', .int .i64 e2', .int .i64 e3] 95)))
          clear hb4 hb2
          go_wp2
          go_roundw
          case rel => exact ⟨k + 1, _, _, _, _, by omega, by go_num, by rw [a2.out], M3, B2, B4, JJ⟩
          case measure => simp [intOf]; omega
        | true =>
          have M3 := Lib.hid (show SS (k + 1) = (min x0 e0, max x1 e1', min x2 e2', max x3 e3) from M2.out hA)
          clear hA M1 M2
          have hb4 := heap_block (Kp.alloc _ (.cells #[.int .i64 e0, .int .i64 e1', .int .i64 e2', .int .i64 e3] 95)) (set4_heap G42.out (.int .i64 (min x0 e0)) (.int .i64 (max x1 e1')) (.int .i64 (min x2 e2')) (.int .i64 (max x3 e3)))
          have hb2 := heap_block (Kp.alloc _ (.cells #[.int .i64 e0, .int .i64 e1', .int .i64 e2', .int .i64 e3] 95)) ((set4_other zO (.int .i64 (min x0 e0)) (.int .i64 (max x1 e1')) (.int .i64 (min x2 e2')) (.int .i64 (max x3 e3))).trans G22.out)
          have B4 := Lib.hid hb4
          have B2 := Lib.hid hb2
          have JJ := Lib.hid ((set4_below J2.out (w.heap.size + 1) (by omega) (.int .i64 (min x0 e0)) (.int .i64 (max x1 e1')) (.int .i64 (min x2 e2')) (.int .i64 (max x3 e3))).trans (Kp.alloc _ (.cells #[.int .i64 e0, .int .i64 e1', .int .i64 e2', .int .i64 e3] 95)))
          clear hb4 hb2
          go_wp2
          go_roundw
          case rel => exact ⟨k + 1, _, _, _, _, by omega, by go_num, by rw [a2.out], M3, B2, B4, JJ⟩
          case measure => simp [intOf]; omega
    · obtain rfl : k = l.length := by omega
      have rc0 : wr.cell? ⟨w.heap.size + 1, 0, none⟩ = some (.int .i64 x0) := by simp [World.cell?, G4.out]
      have rf0 : wr.frozen? ⟨w.heap.size + 1, 0, none⟩ = false := by simp [World.frozen?, G4.out]
      have rc1 : wr.cell? ⟨w.heap.size + 1, 1, none⟩ = some (.int .i64 x1) := by simp [World.cell?, G4.out]
      have rf1 : wr.frozen? ⟨w.heap.size + 1, 1, none⟩ = false := by simp [World.frozen?, G4.out]
      have rc2 : wr.cell? ⟨w.heap.size + 1, 2, none⟩ = some (.int .i64 x2) := by simp [World.cell?, G4.out]
      have rf2 : wr.frozen? ⟨w.heap.size + 1, 2, none⟩ = false := by simp [World.frozen?, G4.out]
      have rc3 : wr.cell? ⟨w.heap.size + 1, 3, none⟩ = some (.int .i64 x3) := by simp [World.cell?, G4.out]
      have rf3 : wr.frozen? ⟨w.heap.size + 1, 3, none⟩ = false := by simp [World.frozen?, G4.out]
      have sc0 : wr.cell? ⟨w.heap.size, 0, none⟩ = some (.int .i64 0) := by simp [World.cell?, G2.out]
      have sf0 : wr.frozen? ⟨w.heap.size, 0, none⟩ = false := by simp [World.frozen?, G2.out]
      have sc1 : wr.cell? ⟨w.heap.size, 1, none⟩ = some (.int .i64 0) := by simp [World.cell?, G2.out]
      have sf1 : wr.frozen? ⟨w.heap.size, 1, none⟩ = false := by simp [World.frozen?, G2.out]
      have sc2 : wr.cell? ⟨w.heap.size, 2, none⟩ = some (.int .i64 0) := by simp [World.cell?, G2.out]
      have sf2 : wr.frozen? ⟨w.heap.size, 2, none⟩ = false := by simp [World.frozen?, G2.out]
      have sc3 : wr.cell? ⟨w.heap.size, 3, none⟩ = some (.int .i64 0) := by simp [World.cell?, G2.out]
      have sf3 : wr.frozen? ⟨w.heap.size, 3, none⟩ = false := by simp [World.frozen?, G2.out]
      have zN : ¬ w.heap.size + 1 = w.heap.size := by omega
      have zO : ¬ w.heap.size = w.heap.size + 1 := by omega
      have RD := set4_read G2.out (.int .i64 x0) (.int .i64 x1) (.int .i64 x2) (.int .i64 x3) (Kp.refl _)
      go_wp2
      exact bodyPost_ret (v := .tuple #[.agg #[.int .i64 x0, .int .i64 x1, .int .i64 x2, .int .i64 x3], .bool (AA l.length)]) (by simp [results, Tryz.f61, go_sem, RD]) rfl ⟨by rw [HS.out], set4_below J.out w.heap.size (Nat.le_refl _) _ _ _ _⟩
end Go.Proofs.YtjjpnglilalnmaaGreatDoor

namespace Go.Proofs.YtjjpnglilalnmaaGreatDoor
open Go.RowKit
set_option linter.unusedVariables false
set_option linter.unusedSimpArgs false
theorem envAN_all (l : List LF) : envAN l l.length = anyB l := by unfold envAN; rw [List.take_length]
theorem envST_all (l : List LF) : envST l l.length = ((envF dLS min l).1, (envF dGS max l).1, (envF dLE min l).1, (envF dGE max l).1) := by unfold envST; rw [List.take_length]
set_option maxHeartbeats 16000000 in
set_option maxRecDepth 100000 in
theorem told_Earliest (v : Value) (l : List LF) (w : World) (hv : LeavesAt w v l) (hl : LsOk l) :
    Calls Tryz.prog 45 #[v, .int .i64 0] w fun e w' => e = .returned (.tuple #[.int .i64 (envF dLS min l).1, .int .i64 (envF dLS min l).2]) ∧ Kp w w' := by
  have C := Lib.hid (refAll_any v l w hv hl)
  rw [envAN_all, envST_all] at C
  rcases Bool.eq_false_or_eq_true (anyB l) with ha | ha
  · have e2 := (env_min dLS l ha).1
    rw [e2]
    rw [ha] at C
    simp only at C
    generalize (envF dLS min l).1 = x0 at *
    generalize (envF dGS max l).1 = x1 at *
    generalize (envF dLE min l).1 = x2 at *
    generalize (envF dGE max l).1 = x3 at *
    clear e2 ha hv hl
    go_enter Tryz.func45, Tryz.ntmps45
    go_wp2_with fail
    refine (C.out).mono ?_
    rintro e w1 ⟨rfl, kk⟩
    have K1 := Lib.hid kk
    clear kk C
    go_wp2
    exact bodyPost_ret (results_tmp2 rfl _ _ _) rfl ⟨rfl, K1.out.trans (Kp.alloc _ _)⟩
  · rw [env_nil _ _ _ ha]
    rw [ha] at C
    simp only at C ⊢
    generalize (envF dLS min l).1 = x0 at *
    generalize (envF dGS max l).1 = x1 at *
    generalize (envF dLE min l).1 = x2 at *
    generalize (envF dGE max l).1 = x3 at *
    clear ha hv hl
    go_enter Tryz.func45, Tryz.ntmps45
    go_wp2_with fail
    refine (C.out).mono ?_
    rintro e w1 ⟨rfl, kk⟩
    have K1 := Lib.hid kk
    clear kk C
    go_wp2
    exact bodyPost_ret (results_tmp2 rfl _ _ _) rfl ⟨rfl, K1.out.trans (Kp.alloc _ _)⟩
theorem refEarliest_any (v : Value) (l : List LF) (w : World) (hv : LeavesAt w v l) (hl : LsOk l) :
    Calls Tryz.prog 27 #[v] w fun e w' => e = .returned (.tuple #[.int .i64 (envF dLS min l).1, .int .i64 (envF dLS min l).2]) ∧ Kp w w' := by
  have C := Lib.hid (told_Earliest v l w hv hl)
  generalize envF dLS min l = r at *
  obtain ⟨x, y⟩ := r
  clear hv hl
  go_enter Tryz.func27, Tryz.ntmps27
  go_wp2_with fail
  refine (C.out).mono ?_
  rintro e w' ⟨rfl, kk⟩
  go_wp2
  exact bodyPost_ret (results_tmp2 rfl _ _ _) rfl ⟨rfl, kk⟩
set_option maxHeartbeats 16000000 in
set_option maxRecDepth 100000 in
theorem told_LastStart (v : Value) (l : List LF) (w : World) (hv : LeavesAt w v l) (hl : LsOk l) :
    Calls Tryz.prog 45 #[v, .int .i64 1] w fun e w' => e = .returned (.tuple #[.int .i64 (envF dGS max l).1, .int .i64 (envF dGS max l).2]) ∧ Kp w w' := by
  have C := Lib.hid (refAll_any v l w hv hl)
  rw [envAN_all, envST_all] at C
  rcases Bool.eq_false_or_eq_true (anyB l) with ha | ha
  · have e2 := (env_max dGS l ha).1
    rw [e2]
    rw [ha] at C
    simp only at C
    generalize (envF dLS min l).1 = x0 at *
    generalize (envF dGS max l).1 = x1 at *
    generalize (envF dLE min l).1 = x2 at *
    generalize (envF dGE max l).1 = x3 at *
    clear e2 ha hv hl
    go_enter Tryz.func45, Tryz.ntmps45
    go_wp2_with fail
    refine (C.out).mono ?_
    rintro e w1 ⟨rfl, kk⟩
    have K1 := Lib.hid kk
    clear kk C
    go_wp2
    exact bodyPost_ret (results_tmp2 rfl _ _ _) rfl ⟨rfl, K1.out.trans (Kp.alloc _ _)⟩
  · rw [env_nil _ _ _ ha]
    rw [ha] at C
    simp only at C ⊢
    generalize (envF dLS min l).1 = x0 at *
    generalize (envF dGS max l).1 = x1 at *
    generalize (envF dLE min l).1 = x2 at *
    generalize (envF dGE max l).1 = x3 at *
    clear ha hv hl
    go_enter Tryz.func45, Tryz.ntmps45
    go_wp2_with fail
    refine (C.out).mono ?_
    rintro e w1 ⟨rfl, kk⟩
    have K1 := Lib.hid kk
    clear kk C
    go_wp2
    exact bodyPost_ret (results_tmp2 rfl _ _ _) rfl ⟨rfl, K1.out.trans (Kp.alloc _ _)⟩
theorem refLastStart_any (v : Value) (l : List LF) (w : World) (hv : LeavesAt w v l) (hl : LsOk l) :
    Calls Tryz.prog 31 #[v] w fun e w' => e = .returned (.tuple #[.int .i64 (envF dGS max l).1, .int .i64 (envF dGS max l).2]) ∧ Kp w w' := by
  have C := Lib.hid (told_LastStart v l w hv hl)
  generalize envF dGS max l = r at *
  obtain ⟨x, y⟩ := r
  clear hv hl
  go_enter Tryz.func31, Tryz.ntmps31
  go_wp2_with fail
  refine (C.out).mono ?_
  rintro e w' ⟨rfl, kk⟩
  go_wp2
  exact bodyPost_ret (results_tmp2 rfl _ _ _) rfl ⟨rfl, kk⟩
set_option maxHeartbeats 16000000 in
set_option maxRecDepth 100000 in
theorem told_FirstEnd (v : Value) (l : List LF) (w : World) (hv : LeavesAt w v l) (hl : LsOk l) :
    Calls Tryz.prog 45 #[v, .int .i64 2] w fun e w' => e = .returned (.tuple #[.int .i64 (envF dLE min l).1, .int .i64 (envF dLE min l).2]) ∧ Kp w w' := by
  have C := Lib.hid (refAll_any v l w hv hl)
  rw [envAN_all, envST_all] at C
  rcases Bool.eq_false_or_eq_true (anyB l) with ha | ha
  · have e2 := (env_min dLE l ha).1
    rw [e2]
    rw [ha] at C
    simp only at C
    generalize (envF dLS min l).1 = x0 at *
    generalize (envF dGS max l).1 = x1 at *
    generalize (envF dLE min l).1 = x2 at *
    generalize (envF dGE max l).1 = x3 at *
    clear e2 ha hv hl
    go_enter Tryz.func45, Tryz.ntmps45
    go_wp2_with fail
    refine (C.out).mono ?_
    rintro e w1 ⟨rfl, kk⟩
    have K1 := Lib.hid kk
    clear kk C
    go_wp2
    exact bodyPost_ret (results_tmp2 rfl _ _ _) rfl ⟨rfl, K1.out.trans (Kp.alloc _ _)⟩
  · rw [env_nil _ _ _ ha]
    rw [ha] at C
    simp only at C ⊢
    generalize (envF dLS min l).1 = x0 at *
    generalize (envF dGS max l).1 = x1 at *
    generalize (envF dLE min l).1 = x2 at *
    generalize (envF dGE max l).1 = x3 at *
    clear ha hv hl
    go_enter Tryz.func45, Tryz.ntmps45
    go_wp2_with fail
    refine (C.out).mono ?_
    rintro e w1 ⟨rfl, kk⟩
    have K1 := Lib.hid kk
    clear kk C
    go_wp2
    exact bodyPost_ret (results_tmp2 rfl _ _ _) rfl ⟨rfl, K1.out.trans (Kp.alloc _ _)⟩
theorem refFirstEnd_any (v : Value) (l : List LF) (w : World) (hv : LeavesAt w v l) (hl : LsOk l) :
    Calls Tryz.prog 30 #[v] w fun e w' => e = .returned (.tuple #[.int .i64 (envF dLE min l).1, .int .i64 (envF dLE min l).2]) ∧ Kp w w' := by
  have C := Lib.hid (told_FirstEnd v l w hv hl)
  generalize envF dLE min l = r at *
  obtain ⟨x, y⟩ := r
  clear hv hl
  go_enter Tryz.func30, Tryz.ntmps30
  go_wp2_with fail
  refine (C.out).mono ?_
  rintro e w' ⟨rfl, kk⟩
  go_wp2
  exact bodyPost_ret (results_tmp2 rfl _ _ _) rfl ⟨rfl, kk⟩
set_option maxHeartbeats 16000000 in
set_option maxRecDepth 100000 in
theorem told_Latest (v : Value) (l : List LF) (w : World) (hv : LeavesAt w v l) (hl : LsOk l) :
    Calls Tryz.prog 45 #[v, .int .i64 3] w fun e w' => e = .returned (.tuple #[.int .i64 (envF dGE max l).1, .int .i64 (envF dGE max l).2]) ∧ Kp w w' := by
  have C := Lib.hid (refAll_any v l w hv hl)
  rw [envAN_all, envST_all] at C
  rcases Bool.eq_false_or_eq_true (anyB l) with ha | ha
  · have e2 := (env_max dGE l ha).1
    rw [e2]
    rw [ha] at C
    simp only at C
    generalize (envF dLS min l).1 = x0 at *
    generalize (envF dGS max l).1 = x1 at *
    generalize (envF dLE min l).1 = x2 at *
    generalize (envF dGE max l).1 = x3 at *
    clear e2 ha hv hl
    go_enter Tryz.func45, Tryz.ntmps45
    go_wp2_with fail
    refine (C.out).mono ?_
    rintro e w1 ⟨rfl, kk⟩
    have K1 := Lib.hid kk
    clear kk C
    go_wp2
    exact bodyPost_ret (results_tmp2 rfl _ _ _) rfl ⟨rfl, K1.out.trans (Kp.alloc _ _)⟩
  · rw [env_nil _ _ _ ha]
    rw [ha] at C
    simp only at C ⊢
    generalize (envF dLS min l).1 = x0 at *
    generalize (envF dGS max l).1 = x1 at *
    generalize (envF dLE min l).1 = x2 at *
    generalize (envF dGE max l).1 = x3 at *
    clear ha hv hl
    go_enter Tryz.func45, Tryz.ntmps45
    go_wp2_with fail
    refine (C.out).mono ?_
    rintro e w1 ⟨rfl, kk⟩
    have K1 := Lib.hid kk
    clear kk C
    go_wp2
    exact bodyPost_ret (results_tmp2 rfl _ _ _) rfl ⟨rfl, K1.out.trans (Kp.alloc _ _)⟩
theorem refLatest_any (v : Value) (l : List LF) (w : World) (hv : LeavesAt w v l) (hl : LsOk l) :
    Calls Tryz.prog 26 #[v] w fun e w' => e = .returned (.tuple #[.int .i64 (envF dGE max l).1, .int .i64 (envF dGE max l).2]) ∧ Kp w w' := by
  have C := Lib.hid (told_Latest v l w hv hl)
  generalize envF dGE max l = r at *
  obtain ⟨x, y⟩ := r
  clear hv hl
  go_enter Tryz.func26, Tryz.ntmps26
  go_wp2_with fail
  refine (C.out).mono ?_
  rintro e w' ⟨rfl, kk⟩
  go_wp2
  exact bodyPost_ret (results_tmp2 rfl _ _ _) rfl ⟨rfl, kk⟩
end Go.Proofs.YtjjpnglilalnmaaGreatDoor

namespace Go.Proofs.YtjjpnglilalnmaaGreatDoor
open Go.RowKit
set_option linter.unusedVariables false
set_option linter.unusedSimpArgs false
set_option maxHeartbeats 16000000 in
set_option maxRecDepth 100000 in
theorem r21Certainly_any (v u : Value) (l m : List LF) (w : World) (hv : LeavesAt w v l) (hu : LeavesAt w u m) (hl : LsOk l) (hm : LsOk m) :
    Calls Tryz.prog 9 #[v, u] w fun e w' => e = .returned (.tuple #[.bool (cerO l m), .int .i64 (erE (bothB l m))]) ∧ Kp w w' := by
  have K0 := Lib.hid (Kp.refl w)
  have C1 := Lib.hid (fun w1 (k : Kp w w1) => refLatest_any v l w1 (hv.kp k) hl)
  have C2 := Lib.hid (fun w1 (k : Kp w w1) => refEarliest_any u m w1 (hu.kp k) hm)
  have q1 := env_er dGE max l (.inr rfl)
  have q2 := env_er dLS min m (.inl rfl)
  rw [q1] at C1
  rw [q2] at C2
  unfold cerO bothB
  clear q1 q2 hv hu hl hm
  generalize (envF dGE max l).1 = x at *
  generalize (envF dLS min m).1 = y at *
  generalize anyB l = a at *
  generalize anyB m = b at *
  obtain ⟨rb, hrb⟩ : ∃ r, decide (x < y) = r := ⟨_, rfl⟩
  rw [hrb]
  cases a <;> cases b
  · rw [erE_f] at C1
    rw [erE_f] at C2
    go_enter Tryz.func9, Tryz.ntmps9
    go_wp2_with fail
    refine (C1.out _ (by first | with_reducible exact K0.out | with_reducible exact K0.out.trans (Kp.alloc _ _) | with_reducible exact (K0.out.trans (Kp.alloc _ _)).trans (Kp.alloc _ _) | with_reducible exact ((K0.out.trans (Kp.alloc _ _)).trans (Kp.alloc _ _)).trans (Kp.alloc _ _) | with_reducible exact K0.out.trans (Kp.drew _) | with_reducible exact K0.out.trans (Kp.drewN _ _))).mono ?_
    rintro e w1 ⟨rfl, kk⟩
    have K1 := Lib.hid ((show Kp w _ from (by first | with_reducible exact K0.out | with_reducible exact K0.out.trans (Kp.alloc _ _) | with_reducible exact (K0.out.trans (Kp.alloc _ _)).trans (Kp.alloc _ _) | with_reducible exact ((K0.out.trans (Kp.alloc _ _)).trans (Kp.alloc _ _)).trans (Kp.alloc _ _) | with_reducible exact K0.out.trans (Kp.drew _) | with_reducible exact K0.out.trans (Kp.drewN _ _))).trans kk)
    clear kk
    go_wp2_with fail
    refine (C2.out _ (by first | with_reducible exact K1.out | with_reducible exact K1.out.trans (Kp.alloc _ _) | with_reducible exact (K1.out.trans (Kp.alloc _ _)).trans (Kp.alloc _ _) | with_reducible exact ((K1.out.trans (Kp.alloc _ _)).trans (Kp.alloc _ _)).trans (Kp.alloc _ _) | with_reducible exact K1.out.trans (Kp.drew _) | with_reducible exact K1.out.trans (Kp.drewN _ _))).mono ?_
    rintro e w2 ⟨rfl, kk⟩
    have K2 := Lib.hid ((show Kp w _ from (by first | with_reducible exact K1.out | with_reducible exact K1.out.trans (Kp.alloc _ _) | with_reducible exact (K1.out.trans (Kp.alloc _ _)).trans (Kp.alloc _ _) | with_reducible exact ((K1.out.trans (Kp.alloc _ _)).trans (Kp.alloc _ _)).trans (Kp.alloc _ _) | with_reducible exact K1.out.trans (Kp.drew _) | with_reducible exact K1.out.trans (Kp.drewN _ _))).trans kk)
    clear kk
    go_wp2
    exact bodyPost_ret (results_tmp2 rfl _ _ _) rfl ⟨rfl, K2.out⟩
  · rw [erE_f] at C1
    rw [erE_t] at C2
    go_enter Tryz.func9, Tryz.ntmps9
    go_wp2_with fail
    refine (C1.out _ (by first | with_reducible exact K0.out | with_reducible exact K0.out.trans (Kp.alloc _ _) | with_reducible exact (K0.out.trans (Kp.alloc _ _)).trans (Kp.alloc _ _) | with_reducible exact ((K0.out.trans (Kp.alloc _ _)).trans (Kp.alloc _ _)).trans (Kp.alloc _ _) | with_reducible exact K0.out.trans (Kp.drew _) | with_reducible exact K0.out.trans (Kp.drewN _ _))).mono ?_
    rintro e w1 ⟨rfl, kk⟩
    have K1 := Lib.hid ((show Kp w _ from (by first | with_reducible exact K0.out | with_reducible exact K0.out.trans (Kp.alloc _ _) | with_reducible exact (K0.out.trans (Kp.alloc _ _)).trans (Kp.alloc _ _) | with_reducible exact ((K0.out.trans (Kp.alloc _ _)).trans (Kp.alloc _ _)).trans (Kp.alloc _ _) | with_reducible exact K0.out.trans (Kp.drew _) | with_reducible exact K0.out.trans (Kp.drewN _ _))).trans kk)
    clear kk
    go_wp2_with fail
    refine (C2.out _ (by first | with_reducible exact K1.out | with_reducible exact K1.out.trans (Kp.alloc _ _) | with_reducible exact (K1.out.trans (Kp.alloc _ _)).trans (Kp.alloc _ _) | with_reducible exact ((K1.out.trans (Kp.alloc _ _)).trans (Kp.alloc _ _)).trans (Kp.alloc _ _) | with_reducible exact K1.out.trans (Kp.drew _) | with_reducible exact K1.out.trans (Kp.drewN _ _))).mono ?_
    rintro e w2 ⟨rfl, kk⟩
    have K2 := Lib.hid ((show Kp w _ from (by first | with_reducible exact K1.out | with_reducible exact K1.out.trans (Kp.alloc _ _) | with_reducible exact (K1.out.trans (Kp.alloc _ _)).trans (Kp.alloc _ _) | with_reducible exact ((K1.out.trans (Kp.alloc _ _)).trans (Kp.alloc _ _)).trans (Kp.alloc _ _) | with_reducible exact K1.out.trans (Kp.drew _) | with_reducible exact K1.out.trans (Kp.drewN _ _))).trans kk)
    clear kk
    go_wp2
    exact bodyPost_ret (results_tmp2 rfl _ _ _) rfl ⟨rfl, K2.out⟩
  · rw [erE_t] at C1
    rw [erE_f] at C2
    go_enter Tryz.func9, Tryz.ntmps9
    go_wp2_with fail
    refine (C1.out _ (by first | with_reducible exact K0.out | with_reducible exact K0.out.trans (Kp.alloc _ _) | with_reducible exact (K0.out.trans (Kp.alloc _ _)).trans (Kp.alloc _ _) | with_reducible exact ((K0.out.trans (Kp.alloc _ _)).trans (Kp.alloc _ _)).trans (Kp.alloc _ _) | with_reducible exact K0.out.trans (Kp.drew _) | with_reducible exact K0.out.trans (Kp.drewN _ _))).mono ?_
    rintro e w1 ⟨rfl, kk⟩
    have K1 := Lib.hid ((show Kp w _ from (by first | with_reducible exact K0.out | with_reducible exact K0.out.trans (Kp.alloc _ _) | with_reducible exact (K0.out.trans (Kp.alloc _ _)).trans (Kp.alloc _ _) | with_reducible exact ((K0.out.trans (Kp.alloc _ _)).trans (Kp.alloc _ _)).trans (Kp.alloc _ _) | with_reducible exact K0.out.trans (Kp.drew _) | with_reducible exact K0.out.trans (Kp.drewN _ _))).trans kk)
    clear kk
    go_wp2_with fail
    refine (C2.out _ (by first | with_reducible exact K1.out | with_reducible exact K1.out.trans (Kp.alloc _ _) | with_reducible exact (K1.out.trans (Kp.alloc _ _)).trans (Kp.alloc _ _) | with_reducible exact ((K1.out.trans (Kp.alloc _ _)).trans (Kp.alloc _ _)).trans (Kp.alloc _ _) | with_reducible exact K1.out.trans (Kp.drew _) | with_reducible exact K1.out.trans (Kp.drewN _ _))).mono ?_
    rintro e w2 ⟨rfl, kk⟩
    have K2 := Lib.hid ((show Kp w _ from (by first | with_reducible exact K1.out | with_reducible exact K1.out.trans (Kp.alloc _ _) | with_reducible exact (K1.out.trans (Kp.alloc _ _)).trans (Kp.alloc _ _) | with_reducible exact ((K1.out.trans (Kp.alloc _ _)).trans (Kp.alloc _ _)).trans (Kp.alloc _ _) | with_reducible exact K1.out.trans (Kp.drew _) | with_reducible exact K1.out.trans (Kp.drewN _ _))).trans kk)
    clear kk
    go_wp2
    exact bodyPost_ret (results_tmp2 rfl _ _ _) rfl ⟨rfl, K2.out⟩
  · rw [erE_t] at C1
    rw [erE_t] at C2
    go_enter Tryz.func9, Tryz.ntmps9
    go_wp2_with fail
    refine (C1.out _ (by first | with_reducible exact K0.out | with_reducible exact K0.out.trans (Kp.alloc _ _) | with_reducible exact (K0.out.trans (Kp.alloc _ _)).trans (Kp.alloc _ _) | with_reducible exact ((K0.out.trans (Kp.alloc _ _)).trans (Kp.alloc _ _)).trans (Kp.alloc _ _) | with_reducible exact K0.out.trans (Kp.drew _) | with_reducible exact K0.out.trans (Kp.drewN _ _))).mono ?_
    rintro e w1 ⟨rfl, kk⟩
    have K1 := Lib.hid ((show Kp w _ from (by first | with_reducible exact K0.out | with_reducible exact K0.out.trans (Kp.alloc _ _) | with_reducible exact (K0.out.trans (Kp.alloc _ _)).trans (Kp.alloc _ _) | with_reducible exact ((K0.out.trans (Kp.alloc _ _)).trans (Kp.alloc _ _)).trans (Kp.alloc _ _) | with_reducible exact K0.out.trans (Kp.drew _) | with_reducible exact K0.out.trans (Kp.drewN _ _))).trans kk)
    clear kk
    go_wp2_with fail
    refine (C2.out _ (by first | with_reducible exact K1.out | with_reducible exact K1.out.trans (Kp.alloc _ _) | with_reducible exact (K1.out.trans (Kp.alloc _ _)).trans (Kp.alloc _ _) | with_reducible exact ((K1.out.trans (Kp.alloc _ _)).trans (Kp.alloc _ _)).trans (Kp.alloc _ _) | with_reducible exact K1.out.trans (Kp.drew _) | with_reducible exact K1.out.trans (Kp.drewN _ _))).mono ?_
    rintro e w2 ⟨rfl, kk⟩
    have K2 := Lib.hid ((show Kp w _ from (by first | with_reducible exact K1.out | with_reducible exact K1.out.trans (Kp.alloc _ _) | with_reducible exact (K1.out.trans (Kp.alloc _ _)).trans (Kp.alloc _ _) | with_reducible exact ((K1.out.trans (Kp.alloc _ _)).trans (Kp.alloc _ _)).trans (Kp.alloc _ _) | with_reducible exact K1.out.trans (Kp.drew _) | with_reducible exact K1.out.trans (Kp.drewN _ _))).trans kk)
    clear kk
    go_wp2
    exact bodyPost_ret (results_tmp2 rfl _ _ _) rfl ⟨rfl, K2.out⟩
set_option maxHeartbeats 16000000 in
set_option maxRecDepth 100000 in
theorem r21Possibly_any (v u : Value) (l m : List LF) (w : World) (hv : LeavesAt w v l) (hu : LeavesAt w u m) (hl : LsOk l) (hm : LsOk m) :
    Calls Tryz.prog 11 #[v, u] w fun e w' => e = .returned (.tuple #[.bool (posO l m), .int .i64 (erE (bothB l m))]) ∧ Kp w w' := by
  have K0 := Lib.hid (Kp.refl w)
  have C1 := Lib.hid (fun w1 (k : Kp w w1) => refFirstEnd_any v l w1 (hv.kp k) hl)
  have C2 := Lib.hid (fun w1 (k : Kp w w1) => refLastStart_any u m w1 (hu.kp k) hm)
  have q1 := env_er dLE min l (.inl rfl)
  have q2 := env_er dGS max m (.inr rfl)
  rw [q1] at C1
  rw [q2] at C2
  unfold posO bothB
  clear q1 q2 hv hu hl hm
  generalize (envF dLE min l).1 = x at *
  generalize (envF dGS max m).1 = y at *
  generalize anyB l = a at *
  generalize anyB m = b at *
  obtain ⟨rb, hrb⟩ : ∃ r, decide (x < y) = r := ⟨_, rfl⟩
  rw [hrb]
  cases a <;> cases b
  · rw [erE_f] at C1
    rw [erE_f] at C2
    go_enter Tryz.func11, Tryz.ntmps11
    go_wp2_with fail
    refine (C1.out _ (by first | with_reducible exact K0.out | with_reducible exact K0.out.trans (Kp.alloc _ _) | with_reducible exact (K0.out.trans (Kp.alloc _ _)).trans (Kp.alloc _ _) | with_reducible exact ((K0.out.trans (Kp.alloc _ _)).trans (Kp.alloc _ _)).trans (Kp.alloc _ _) | with_reducible exact K0.out.trans (Kp.drew _) | with_reducible exact K0.out.trans (Kp.drewN _ _))).mono ?_
    rintro e w1 ⟨rfl, kk⟩
    have K1 := Lib.hid ((show Kp w _ from (by first | with_reducible exact K0.out | with_reducible exact K0.out.trans (Kp.alloc _ _) | with_reducible exact (K0.out.trans (Kp.alloc _ _)).trans (Kp.alloc _ _) | with_reducible exact ((K0.out.trans (Kp.alloc _ _)).trans (Kp.alloc _ _)).trans (Kp.alloc _ _) | with_reducible exact K0.out.trans (Kp.drew _) | with_reducible exact K0.out.trans (Kp.drewN _ _))).trans kk)
    clear kk
    go_wp2_with fail
    refine (C2.out _ (by first | with_reducible exact K1.out | with_reducible exact K1.out.trans (Kp.alloc _ _) | with_reducible exact (K1.out.trans (Kp.alloc _ _)).trans (Kp.alloc _ _) | with_reducible exact ((K1.out.trans (Kp.alloc _ _)).trans (Kp.alloc _ _)).trans (Kp.alloc _ _) | with_reducible exact K1.out.trans (Kp.drew _) | with_reducible exact K1.out.trans (Kp.drewN _ _))).mono ?_
    rintro e w2 ⟨rfl, kk⟩
    have K2 := Lib.hid ((show Kp w _ from (by first | with_reducible exact K1.out | with_reducible exact K1.out.trans (Kp.alloc _ _) | with_reducible exact (K1.out.trans (Kp.alloc _ _)).trans (Kp.alloc _ _) | with_reducible exact ((K1.out.trans (Kp.alloc _ _)).trans (Kp.alloc _ _)).trans (Kp.alloc _ _) | with_reducible exact K1.out.trans (Kp.drew _) | with_reducible exact K1.out.trans (Kp.drewN _ _))).trans kk)
    clear kk
    go_wp2
    exact bodyPost_ret (results_tmp2 rfl _ _ _) rfl ⟨rfl, K2.out⟩
  · rw [erE_f] at C1
    rw [erE_t] at C2
    go_enter Tryz.func11, Tryz.ntmps11
    go_wp2_with fail
    refine (C1.out _ (by first | with_reducible exact K0.out | with_reducible exact K0.out.trans (Kp.alloc _ _) | with_reducible exact (K0.out.trans (Kp.alloc _ _)).trans (Kp.alloc _ _) | with_reducible exact ((K0.out.trans (Kp.alloc _ _)).trans (Kp.alloc _ _)).trans (Kp.alloc _ _) | with_reducible exact K0.out.trans (Kp.drew _) | with_reducible exact K0.out.trans (Kp.drewN _ _))).mono ?_
    rintro e w1 ⟨rfl, kk⟩
    have K1 := Lib.hid ((show Kp w _ from (by first | with_reducible exact K0.out | with_reducible exact K0.out.trans (Kp.alloc _ _) | with_reducible exact (K0.out.trans (Kp.alloc _ _)).trans (Kp.alloc _ _) | with_reducible exact ((K0.out.trans (Kp.alloc _ _)).trans (Kp.alloc _ _)).trans (Kp.alloc _ _) | with_reducible exact K0.out.trans (Kp.drew _) | with_reducible exact K0.out.trans (Kp.drewN _ _))).trans kk)
    clear kk
    go_wp2_with fail
    refine (C2.out _ (by first | with_reducible exact K1.out | with_reducible exact K1.out.trans (Kp.alloc _ _) | with_reducible exact (K1.out.trans (Kp.alloc _ _)).trans (Kp.alloc _ _) | with_reducible exact ((K1.out.trans (Kp.alloc _ _)).trans (Kp.alloc _ _)).trans (Kp.alloc _ _) | with_reducible exact K1.out.trans (Kp.drew _) | with_reducible exact K1.out.trans (Kp.drewN _ _))).mono ?_
    rintro e w2 ⟨rfl, kk⟩
    have K2 := Lib.hid ((show Kp w _ from (by first | with_reducible exact K1.out | with_reducible exact K1.out.trans (Kp.alloc _ _) | with_reducible exact (K1.out.trans (Kp.alloc _ _)).trans (Kp.alloc _ _) | with_reducible exact ((K1.out.trans (Kp.alloc _ _)).trans (Kp.alloc _ _)).trans (Kp.alloc _ _) | with_reducible exact K1.out.trans (Kp.drew _) | with_reducible exact K1.out.trans (Kp.drewN _ _))).trans kk)
    clear kk
    go_wp2
    exact bodyPost_ret (results_tmp2 rfl _ _ _) rfl ⟨rfl, K2.out⟩
  · rw [erE_t] at C1
    rw [erE_f] at C2
    go_enter Tryz.func11, Tryz.ntmps11
    go_wp2_with fail
    refine (C1.out _ (by first | with_reducible exact K0.out | with_reducible exact K0.out.trans (Kp.alloc _ _) | with_reducible exact (K0.out.trans (Kp.alloc _ _)).trans (Kp.alloc _ _) | with_reducible exact ((K0.out.trans (Kp.alloc _ _)).trans (Kp.alloc _ _)).trans (Kp.alloc _ _) | with_reducible exact K0.out.trans (Kp.drew _) | with_reducible exact K0.out.trans (Kp.drewN _ _))).mono ?_
    rintro e w1 ⟨rfl, kk⟩
    have K1 := Lib.hid ((show Kp w _ from (by first | with_reducible exact K0.out | with_reducible exact K0.out.trans (Kp.alloc _ _) | with_reducible exact (K0.out.trans (Kp.alloc _ _)).trans (Kp.alloc _ _) | with_reducible exact ((K0.out.trans (Kp.alloc _ _)).trans (Kp.alloc _ _)).trans (Kp.alloc _ _) | with_reducible exact K0.out.trans (Kp.drew _) | with_reducible exact K0.out.trans (Kp.drewN _ _))).trans kk)
    clear kk
    go_wp2_with fail
    refine (C2.out _ (by first | with_reducible exact K1.out | with_reducible exact K1.out.trans (Kp.alloc _ _) | with_reducible exact (K1.out.trans (Kp.alloc _ _)).trans (Kp.alloc _ _) | with_reducible exact ((K1.out.trans (Kp.alloc _ _)).trans (Kp.alloc _ _)).trans (Kp.alloc _ _) | with_reducible exact K1.out.trans (Kp.drew _) | with_reducible exact K1.out.trans (Kp.drewN _ _))).mono ?_
    rintro e w2 ⟨rfl, kk⟩
    have K2 := Lib.hid ((show Kp w _ from (by first | with_reducible exact K1.out | with_reducible exact K1.out.trans (Kp.alloc _ _) | with_reducible exact (K1.out.trans (Kp.alloc _ _)).trans (Kp.alloc _ _) | with_reducible exact ((K1.out.trans (Kp.alloc _ _)).trans (Kp.alloc _ _)).trans (Kp.alloc _ _) | with_reducible exact K1.out.trans (Kp.drew _) | with_reducible exact K1.out.trans (Kp.drewN _ _))).trans kk)
    clear kk
    go_wp2
    exact bodyPost_ret (results_tmp2 rfl _ _ _) rfl ⟨rfl, K2.out⟩
  · rw [erE_t] at C1
    rw [erE_t] at C2
    go_enter Tryz.func11, Tryz.ntmps11
    go_wp2_with fail
    refine (C1.out _ (by first | with_reducible exact K0.out | with_reducible exact K0.out.trans (Kp.alloc _ _) | with_reducible exact (K0.out.trans (Kp.alloc _ _)).trans (Kp.alloc _ _) | with_reducible exact ((K0.out.trans (Kp.alloc _ _)).trans (Kp.alloc _ _)).trans (Kp.alloc _ _) | with_reducible exact K0.out.trans (Kp.drew _) | with_reducible exact K0.out.trans (Kp.drewN _ _))).mono ?_
    rintro e w1 ⟨rfl, kk⟩
    have K1 := Lib.hid ((show Kp w _ from (by first | with_reducible exact K0.out | with_reducible exact K0.out.trans (Kp.alloc _ _) | with_reducible exact (K0.out.trans (Kp.alloc _ _)).trans (Kp.alloc _ _) | with_reducible exact ((K0.out.trans (Kp.alloc _ _)).trans (Kp.alloc _ _)).trans (Kp.alloc _ _) | with_reducible exact K0.out.trans (Kp.drew _) | with_reducible exact K0.out.trans (Kp.drewN _ _))).trans kk)
    clear kk
    go_wp2_with fail
    refine (C2.out _ (by first | with_reducible exact K1.out | with_reducible exact K1.out.trans (Kp.alloc _ _) | with_reducible exact (K1.out.trans (Kp.alloc _ _)).trans (Kp.alloc _ _) | with_reducible exact ((K1.out.trans (Kp.alloc _ _)).trans (Kp.alloc _ _)).trans (Kp.alloc _ _) | with_reducible exact K1.out.trans (Kp.drew _) | with_reducible exact K1.out.trans (Kp.drewN _ _))).mono ?_
    rintro e w2 ⟨rfl, kk⟩
    have K2 := Lib.hid ((show Kp w _ from (by first | with_reducible exact K1.out | with_reducible exact K1.out.trans (Kp.alloc _ _) | with_reducible exact (K1.out.trans (Kp.alloc _ _)).trans (Kp.alloc _ _) | with_reducible exact ((K1.out.trans (Kp.alloc _ _)).trans (Kp.alloc _ _)).trans (Kp.alloc _ _) | with_reducible exact K1.out.trans (Kp.drew _) | with_reducible exact K1.out.trans (Kp.drewN _ _))).trans kk)
    clear kk
    go_wp2
    exact bodyPost_ret (results_tmp2 rfl _ _ _) rfl ⟨rfl, K2.out⟩
set_option maxHeartbeats 16000000 in
set_option maxRecDepth 100000 in
theorem r21Of_any (v : Value) (l : List LF) (w : World) (hv : LeavesAt w v l) (hl : LsOk l) :
    Calls Tryz.prog 13 #[v] w fun e w' => e = .returned (.tuple #[.agg #[.int .i64 (keyA l), .int .i64 (keyB l)], .int .i64 (erE (anyB l))]) ∧ Kp w w' := by
  obtain ⟨W0, hW⟩ : ∃ x, x = w.alloc (.cells #[.int .i64 0, .int .i64 0] 24) := ⟨_, rfl⟩
  have k0 : Kp w W0 := by rw [hW]; exact Kp.alloc _ _
  have hg : W0.heap[w.heap.size]? = some (.cells #[.int .i64 0, .int .i64 0] 24 (0, 0)) := by rw [hW]; exact heap_at _ _ _ rfl
  have HG := Lib.hid (fun w1 (k : Kp W0 w1) => heap_block k hg)
  have HW := Lib.hid hW
  have K0 := Lib.hid k0
  have J0 := Lib.hid (Kp.refl W0)
  have C1 := Lib.hid (fun w1 (k : Kp w w1) => refEarliest_any v l w1 (hv.kp k) hl)
  have C2 := Lib.hid (fun w1 (k : Kp w w1) => refLatest_any v l w1 (hv.kp k) hl)
  have q1 := env_er dLS min l (.inl rfl)
  have q2 := env_er dGE max l (.inr rfl)
  rw [q1] at C1
  rw [q2] at C2
  unfold keyA keyB
  clear q1 q2 hv hl k0 hg hW
  generalize anyB l = bb at *
  generalize (envF dLS min l).1 = x at *
  generalize (envF dGE max l).1 = y at *
  cases bb with
  | false =>
    rw [erE_f] at C1 C2 ⊢
    rw [if_neg (by decide), if_neg (by decide)]
    go_enter Tryz.func13, Tryz.ntmps13
    go_wp2_with fail
    rw [← HW.out]
    refine (C1.out _ (K0.out.trans (by first | with_reducible exact J0.out | with_reducible exact J0.out.trans (Kp.alloc _ _) | with_reducible exact (J0.out.trans (Kp.alloc _ _)).trans (Kp.alloc _ _) | with_reducible exact ((J0.out.trans (Kp.alloc _ _)).trans (Kp.alloc _ _)).trans (Kp.alloc _ _) | with_reducible exact J0.out.trans (Kp.drew _) | with_reducible exact J0.out.trans (Kp.drewN _ _)))).mono ?_
    rintro e w1 ⟨rfl, kk⟩
    have J1 := Lib.hid ((show Kp W0 _ from (by first | with_reducible exact J0.out | with_reducible exact J0.out.trans (Kp.alloc _ _) | with_reducible exact (J0.out.trans (Kp.alloc _ _)).trans (Kp.alloc _ _) | with_reducible exact ((J0.out.trans (Kp.alloc _ _)).trans (Kp.alloc _ _)).trans (Kp.alloc _ _) | with_reducible exact J0.out.trans (Kp.drew _) | with_reducible exact J0.out.trans (Kp.drewN _ _))).trans kk)
    clear kk
    go_wp2_with fail
    refine (C2.out _ (K0.out.trans (by first | with_reducible exact J1.out | with_reducible exact J1.out.trans (Kp.alloc _ _) | with_reducible exact (J1.out.trans (Kp.alloc _ _)).trans (Kp.alloc _ _) | with_reducible exact ((J1.out.trans (Kp.alloc _ _)).trans (Kp.alloc _ _)).trans (Kp.alloc _ _) | with_reducible exact J1.out.trans (Kp.drew _) | with_reducible exact J1.out.trans (Kp.drewN _ _)))).mono ?_
    rintro e w2 ⟨rfl, kk⟩
    have J2 := Lib.hid ((show Kp W0 _ from (by first | with_reducible exact J1.out | with_reducible exact J1.out.trans (Kp.alloc _ _) | with_reducible exact (J1.out.trans (Kp.alloc _ _)).trans (Kp.alloc _ _) | with_reducible exact ((J1.out.trans (Kp.alloc _ _)).trans (Kp.alloc _ _)).trans (Kp.alloc _ _) | with_reducible exact J1.out.trans (Kp.drew _) | with_reducible exact J1.out.trans (Kp.drewN _ _))).trans kk)
    clear kk
    have b2 := HG.out _ J2.out
    have c0 : w2.cell? ⟨w.heap.size, 0, none⟩ = some (.int .i64 0) := by simp [World.cell?, b2]
    have c1 : w2.cell? ⟨w.heap.size, 1, none⟩ = some (.int .i64 0) := by simp [World.cell?, b2]
    have f0 : w2.frozen? ⟨w.heap.size, 0, none⟩ = false := by simp [World.frozen?, b2]
    have f1 : w2.frozen? ⟨w.heap.size, 1, none⟩ = false := by simp [World.frozen?, b2]
    have e0 : ((w2.setCell ⟨w.heap.size, 0, none⟩ (.int .i64 0)).setCell ⟨w.heap.size, 1, none⟩ (.int .i64 0)).cell? ⟨w.heap.size, 0, none⟩ = some (.int .i64 0) := by simp [World.cell?, cs1_heap (cs1_heap b2 0 (.int .i64 0)) 1 (.int .i64 0)]
    have e2 : (w2.setCell ⟨w.heap.size, 0, none⟩ (.int .i64 0)).cell? ⟨w.heap.size, 0, none⟩ = some (.int .i64 0) := by simp [World.cell?, cs1_heap b2 0 (.int .i64 0)]
    have e1 : ((w2.setCell ⟨w.heap.size, 0, none⟩ (.int .i64 0)).setCell ⟨w.heap.size, 1, none⟩ (.int .i64 0)).cell? ⟨w.heap.size, 1, none⟩ = some (.int .i64 0) := by simp [World.cell?, cs1_heap (cs1_heap b2 0 (.int .i64 0)) 1 (.int .i64 0)]
    clear b2
    go_wp2
    exact bodyPost_ret (v := .tuple #[.agg #[.int .i64 0, .int .i64 0], .int .i64 9]) (by simp [results, Tryz.results13, go_sem, e0, e1, e2]) rfl ⟨rfl, Below.setCell (Below.setCell (K0.out.trans J2.out) (p := ⟨_, 0, none⟩) (Nat.le_refl _) _) (p := ⟨_, 1, none⟩) (Nat.le_refl _) _⟩
  | true =>
    rw [erE_t] at C1 C2 ⊢
    rw [if_pos rfl, if_pos rfl]
    go_enter Tryz.func13, Tryz.ntmps13
    go_wp2_with fail
    rw [← HW.out]
    refine (C1.out _ (K0.out.trans (by first | with_reducible exact J0.out | with_reducible exact J0.out.trans (Kp.alloc _ _) | with_reducible exact (J0.out.trans (Kp.alloc _ _)).trans (Kp.alloc _ _) | with_reducible exact ((J0.out.trans (Kp.alloc _ _)).trans (Kp.alloc _ _)).trans (Kp.alloc _ _) | with_reducible exact J0.out.trans (Kp.drew _) | with_reducible exact J0.out.trans (Kp.drewN _ _)))).mono ?_
    rintro e w1 ⟨rfl, kk⟩
    have J1 := Lib.hid ((show Kp W0 _ from (by first | with_reducible exact J0.out | with_reducible exact J0.out.trans (Kp.alloc _ _) | with_reducible exact (J0.out.trans (Kp.alloc _ _)).trans (Kp.alloc _ _) | with_reducible exact ((J0.out.trans (Kp.alloc _ _)).trans (Kp.alloc _ _)).trans (Kp.alloc _ _) | with_reducible exact J0.out.trans (Kp.drew _) | with_reducible exact J0.out.trans (Kp.drewN _ _))).trans kk)
    clear kk
    go_wp2_with fail
    refine (C2.out _ (K0.out.trans (by first | with_reducible exact J1.out | with_reducible exact J1.out.trans (Kp.alloc _ _) | with_reducible exact (J1.out.trans (Kp.alloc _ _)).trans (Kp.alloc _ _) | with_reducible exact ((J1.out.trans (Kp.alloc _ _)).trans (Kp.alloc _ _)).trans (Kp.alloc _ _) | with_reducible exact J1.out.trans (Kp.drew _) | with_reducible exact J1.out.trans (Kp.drewN _ _)))).mono ?_
    rintro e w2 ⟨rfl, kk⟩
    have J2 := Lib.hid ((show Kp W0 _ from (by first | with_reducible exact J1.out | with_reducible exact J1.out.trans (Kp.alloc _ _) | with_reducible exact (J1.out.trans (Kp.alloc _ _)).trans (Kp.alloc _ _) | with_reducible exact ((J1.out.trans (Kp.alloc _ _)).trans (Kp.alloc _ _)).trans (Kp.alloc _ _) | with_reducible exact J1.out.trans (Kp.drew _) | with_reducible exact J1.out.trans (Kp.drewN _ _))).trans kk)
    clear kk
    have b2 := HG.out _ J2.out
    have c0 : w2.cell? ⟨w.heap.size, 0, none⟩ = some (.int .i64 0) := by simp [World.cell?, b2]
    have c1 : w2.cell? ⟨w.heap.size, 1, none⟩ = some (.int .i64 0) := by simp [World.cell?, b2]
    have f0 : w2.frozen? ⟨w.heap.size, 0, none⟩ = false := by simp [World.frozen?, b2]
    have f1 : w2.frozen? ⟨w.heap.size, 1, none⟩ = false := by simp [World.frozen?, b2]
    have e0 : ((w2.setCell ⟨w.heap.size, 0, none⟩ (.int .i64 x)).setCell ⟨w.heap.size, 1, none⟩ (.int .i64 y)).cell? ⟨w.heap.size, 0, none⟩ = some (.int .i64 x) := by simp [World.cell?, cs1_heap (cs1_heap b2 0 (.int .i64 x)) 1 (.int .i64 y)]
    have e2 : (w2.setCell ⟨w.heap.size, 0, none⟩ (.int .i64 x)).cell? ⟨w.heap.size, 0, none⟩ = some (.int .i64 x) := by simp [World.cell?, cs1_heap b2 0 (.int .i64 x)]
    have e1 : ((w2.setCell ⟨w.heap.size, 0, none⟩ (.int .i64 x)).setCell ⟨w.heap.size, 1, none⟩ (.int .i64 y)).cell? ⟨w.heap.size, 1, none⟩ = some (.int .i64 y) := by simp [World.cell?, cs1_heap (cs1_heap b2 0 (.int .i64 x)) 1 (.int .i64 y)]
    clear b2
    go_wp2
    exact bodyPost_ret (v := .tuple #[.agg #[.int .i64 x, .int .i64 y], .int .i64 0]) (by simp [results, Tryz.results13, go_sem, e0, e1, e2]) rfl ⟨rfl, Below.setCell (Below.setCell (K0.out.trans J2.out) (p := ⟨_, 0, none⟩) (Nat.le_refl _) _) (p := ⟨_, 1, none⟩) (Nat.le_refl _) _⟩
theorem eqRKeyIn (d : Nat) (x y S E : Int) (w : World) : (Op.equalIn (d + 2) 24 (.agg #[.int .i64 x, .int .i64 y]) (.agg #[.int .i64 S, .int .i64 E])).run Tryz.prog w = .ok ((x == S) && (y == E)) w := by
  simp [Op.equalIn, run_underlying Tryz.underlying24, run_underlying Tryz.underlying3, go_sem]
  by_cases h : x = S
  · by_cases g : y = E
    · simp [h, g]
    · simp [h, g]
  · simp [h]
theorem eqRKey (x y S E : Int) (w : World) : (binOp .eql 24 (.agg #[.int .i64 x, .int .i64 y]) (.agg #[.int .i64 S, .int .i64 E])).run Tryz.prog w = .ok (.bool ((x == S) && (y == E))) w := by
  simp [binOp, Op.equal, Op.maxDepth, eqRKeyIn 9998, go_sem]
set_option maxHeartbeats 16000000 in
set_option maxRecDepth 100000 in
theorem r21Compare_any (a b c d : Int) (w : World) : Calls Tryz.prog 15 #[.agg #[.int .i64 a, .int .i64 b], .agg #[.int .i64 c, .int .i64 d]] w fun e w' => e = .returned (.int .i64 (cmpK a b c d)) ∧ Kp w w' := by
  have hk := cmpK_cases a b c d
  have eqk := fun w1 => eqRKey a b c d w1
  by_cases h1 : a < c
  · rw [show cmpK a b c d = -1 by omega]
    clear hk eqk
    go_enter Tryz.func15, Tryz.ntmps15
    go_wp2
    go_ret
    exact ⟨rfl, (Kp.alloc _ _).trans (Kp.alloc _ _)⟩
  by_cases h2 : c < a
  · rw [show cmpK a b c d = 1 by omega]
    have h3 : (a == c) = false := beq_eq_false_iff_ne.2 (by omega)
    rw [h3] at eqk
    simp only [Bool.false_and] at eqk
    clear hk
    go_enter Tryz.func15, Tryz.ntmps15
    go_wp2
    go_ret
    exact ⟨rfl, (Kp.alloc _ _).trans (Kp.alloc _ _)⟩
  obtain rfl : a = c := by omega
  by_cases h3 : b < d
  · rw [show cmpK a b a d = -1 by omega]
    clear hk eqk h1 h2
    have h0 : (a == a) = true := by simp
    go_enter Tryz.func15, Tryz.ntmps15
    go_wp2
    go_ret
    exact ⟨rfl, (Kp.alloc _ _).trans (Kp.alloc _ _)⟩
  by_cases h4 : d < b
  · rw [show cmpK a b a d = 1 by omega]
    have h5 : (b == d) = false := beq_eq_false_iff_ne.2 (by omega)
    rw [h5] at eqk
    simp only [Bool.and_false] at eqk
    clear hk h1 h2
    have h0 : (a == a) = true := by simp
    go_enter Tryz.func15, Tryz.ntmps15
    go_wp2
    go_ret
    exact ⟨rfl, (Kp.alloc _ _).trans (Kp.alloc _ _)⟩
  obtain rfl : b = d := by omega
  rw [show cmpK a b a b = 0 by omega]
  have h0 : (a == a) = true := by simp
  have h5 : (b == b) = true := by simp
  rw [h0, h5] at eqk
  simp only [Bool.and_true] at eqk
  clear hk h1 h2 h3 h4
  go_enter Tryz.func15, Tryz.ntmps15
  go_wp2
  go_ret
  exact ⟨rfl, (Kp.alloc _ _).trans (Kp.alloc _ _)⟩
end Go.Proofs.YtjjpnglilalnmaaGreatDoor
