import Derived.Test.YtcooaoponkkpeaaGreatDoorGLeafA
import Derived.Test.YtcooaoponkkpeaaGreatDoorGSetA
import Derived.Test.YtcooaoponkkpeaaGreatDoorGImgC
import Derived.Test.YtcooaoponkkpeaaGreatDoorJU
import Derived.LoopTactic
import Derived.Test.YtcooaoponkkpeaaGreatDoorJO
import Derived.Test.YtcooaoponkkpeaaGreatDoorJF
set_option maxHeartbeats 16000000
set_option maxRecDepth 100000
namespace Go.Proofs.YtcooaoponkkpeaaGreatDoor
open Go.RowKit
set_option linter.unusedVariables false
set_option linter.unusedSimpArgs false
def withB (most : Int) (s : List R) : Bool := saneB s && (decide (s.length = 0) || (decide (0 ≤ leastR s) && decide (greatR s ≤ most)))
theorem withB_setB (k : Int) (s : List R) : withB (cnt k - 1) s = setB k s := by
 unfold withB setB
 have : decide (greatR s ≤ cnt k - 1) = decide (greatR s < cnt k) := by
  by_cases h : greatR s < cnt k
  ·rw [decide_eq_true h, dT]
  ·rw [decide_eq_false h, dF]
 rw [this]
theorem withB_day (s : List R) : withB 3652424 s = setB 0 s := by
 rw [← withB_setB, cnt_zero]
 rfl
theorem ends_at {w : World} {v : Value} {l : List R} (h : RunsAt w v l) (h0 : 0 < l.length) : ∃ b off c, v = .slice (some ⟨b, off, none⟩) l.length c ∧ w.cell? ⟨b, off, none⟩ = some (.int .i64 (leastR l)) ∧ w.cell? ⟨b, off + (l.length - 1) * 2 + 1, none⟩ = some (.int .i64 (greatR l)) := by
 rcases h with ⟨_, _, _, e⟩ | ⟨b, off, cap, ev, hc, hm, hx⟩
 ·rw [e] at h0; simp at h0
 ·refine ⟨b, off, cap, ev, ?_, (hx (l.length - 1) (by omega)).2⟩
  have := (hx 0 h0).1
  rwa [Nat.zero_mul, Nat.add_zero] at this
theorem rwithin_any (v : Value) (l : List R) (m : Int) (w : World) (hv : RunsAt w v l) (hl : I64R l) (hn : l.length ≤ 1000000) :
  Calls Tryz.prog 206 #[v, .int .i64 m] w fun e w' => e = .returned (.bool (withB m l)) ∧ Kp w w' := by
 have C := Hd (rsane_any v l w hv hl)
 rw [show withB m l = (saneB l && (decide (l.length = 0) || (decide (0 ≤ leastR l) && decide (greatR l ≤ m)))) from rfl]
 by_cases h0 : l.length = 0
 ·obtain ⟨ad, cp, rfl⟩ := hv.slice
  have q : ((l.length : Int) == 0) = true := by rw [h0]; rfl
  rw [decide_eq_true h0]
  clear h0 hv hl hn
  generalize saneB l = s at *
  cases s
  all_goals
   go_enter Tryz.func206, Tryz.ntmps206
   go_wp2_with fail
   refine (C.out).mono ?_
   rintro e w1 ⟨rfl, kk⟩
   have K := Hd kk
   clear kk C
   go_wp2
   go_ret
   exact ⟨by first | rfl | simp | simp [*], K.out⟩
 ·have q : ((l.length : Int) == 0) = false := beq_eq_false_iff_ne.2 (by omega)
  have E := Hd (fun w1 (kk : Kp w w1) => ends_at (hv.kp kk) (by omega))
  obtain ⟨b, off, cp, ev, c0, c1⟩ := ends_at hv (by omega)
  cases ev
  have D0 := Hd (fun w1 (kk : Kp w w1) => cell_up kk c0)
  have D1 := Hd (fun w1 (kk : Kp w w1) => cell_up kk c1)
  have ws : IntKind.i64.wrap ((l.length : Int) - 1) = ((l.length - 1 : Nat) : Int) := by rw [show (l.length : Int) - 1 = ((l.length - 1 : Nat) : Int) by omega]; exact IntWalk.i64_in _ (by omega)
  have wt : (l.length : Int) - 1 = ((l.length - 1 : Nat) : Int) := by omega
  have wu : IntKind.i64.wrap ((l.length - 1 : Nat) : Int) = ((l.length - 1 : Nat) : Int) := IntWalk.i64_in _ (by omega)
  have wx : l.length - 1 < l.length := by omega
  have wz : 0 < l.length := by omega
  have wy : ((l.length - 1 : Nat) : Int) < (l.length : Int) := by omega
  have wv : (0 : Int) ≤ ((l.length - 1 : Nat) : Int) := by omega
  rw [decide_eq_false h0]
  clear h0 hv hl E c0 c1
  generalize l.length - 1 = n1 at *
  generalize saneB l = s at *
  generalize leastR l = x at *
  generalize greatR l = y at *
  obtain ⟨qa, hqa⟩ : ∃ qa, decide (0 ≤ x) = qa := ⟨_, rfl⟩
  obtain ⟨qb, hqb⟩ : ∃ qb, decide (y ≤ m) = qb := ⟨_, rfl⟩
  rw [hqa, hqb]
  cases s <;> cases qa
  all_goals
   go_enter Tryz.func206, Tryz.ntmps206
   go_wp2_with fail
   refine (C.out).mono ?_
   rintro e w1 ⟨rfl, kk⟩
   have K := Hd kk
   have e0 := D0.out w1 kk
   have e1 := D1.out w1 kk
   clear kk C
   go_wp2
   go_ret
   exact ⟨by first | rfl | simp | simp [*], K.out⟩
abbrev rS0 : Oper := ⟨some 18, .fieldAddr 44 (.tmp 1) 1, 0, "ref.go:22", #[], none⟩
abbrev rS1 : Oper := ⟨some 19, .load 3 (.tmp 18), 3, "ref.go:22", #[⟨0, .data⟩], none⟩
abbrev rS2 : Oper := ⟨some 20, .binOp .geq 3 (.tmp 19) (.const (.int .i64 0)) 3, 4, "ref.go:22", #[⟨1, .data⟩], none⟩
abbrev rS3 : Oper := ⟨some 21, .move (.tmp 20), 4, "ref.go:22", #[⟨2, .data⟩], none⟩
abbrev rS4 : Oper := ⟨some 22, .fieldAddr 44 (.tmp 1) 1, 0, "ref.go:22", #[⟨3, .guard⟩], some (3, true)⟩
abbrev rS5 : Oper := ⟨some 23, .load 3 (.tmp 22), 3, "ref.go:22", #[⟨4, .data⟩, ⟨3, .guard⟩], some (3, true)⟩
abbrev rS6 : Oper := ⟨some 24, .binOp .leq 3 (.tmp 23) (.const (.int .i64 5)) 3, 4, "ref.go:22", #[⟨5, .data⟩, ⟨3, .guard⟩], some (3, true)⟩
abbrev rS7 : Oper := ⟨some 25, .pick (.tmp 21) (.tmp 24) (.const (.bool false)), 4, "ref.go:22", #[⟨3, .data⟩, ⟨6, .data⟩], none⟩
abbrev rS8 : Oper := ⟨some 26, .move (.tmp 25), 4, "ref.go:22", #[⟨7, .data⟩, ⟨3, .chain⟩], none⟩
abbrev rS9 : Oper := ⟨some 27, .fieldAddr 44 (.tmp 1) 2, 0, "ref.go:22", #[⟨8, .guard⟩], some (8, true)⟩
abbrev rS10 : Oper := ⟨some 28, .load 34 (.tmp 27), 34, "ref.go:22", #[⟨9, .data⟩, ⟨8, .guard⟩], some (8, true)⟩
abbrev rS11 : Oper := ⟨some 29, .fieldAddr 44 (.tmp 1) 1, 0, "ref.go:22", #[⟨8, .guard⟩], some (8, true)⟩
abbrev rS12 : Oper := ⟨some 30, .load 3 (.tmp 29), 3, "ref.go:22", #[⟨11, .data⟩, ⟨8, .guard⟩], some (8, true)⟩
abbrev rS13 : Oper := ⟨some 31, .call ⟨.value (.func 154), #[.tmp 30], #[3]⟩, 3, "ref.go:22", #[⟨12, .data⟩, ⟨8, .chain⟩, ⟨8, .guard⟩], some (8, true)⟩
abbrev rS14 : Oper := ⟨some 32, .binOp .sub 3 (.tmp 31) (.const (.int .i64 1)) 3, 3, "ref.go:22", #[⟨13, .data⟩, ⟨8, .guard⟩], some (8, true)⟩
abbrev rS15 : Oper := ⟨some 33, .call ⟨.value (.func 206), #[.tmp 28, .tmp 32], #[34, 3]⟩, 4, "ref.go:22", #[⟨10, .data⟩, ⟨14, .data⟩, ⟨13, .chain⟩, ⟨8, .guard⟩], some (8, true)⟩
abbrev rS16 : Oper := ⟨some 34, .pick (.tmp 26) (.tmp 33) (.const (.bool false)), 4, "ref.go:22", #[⟨8, .data⟩, ⟨15, .data⟩], none⟩
abbrev rS17 : Oper := ⟨some 35, .move (.tmp 34), 4, "ref.go:22", #[⟨16, .data⟩, ⟨15, .chain⟩], none⟩
abbrev rS18 : Oper := ⟨some 36, .fieldAddr 44 (.tmp 1) 3, 0, "ref.go:22", #[⟨17, .guard⟩], some (17, true)⟩
abbrev rS19 : Oper := ⟨some 37, .load 34 (.tmp 36), 34, "ref.go:22", #[⟨18, .data⟩, ⟨17, .guard⟩], some (17, true)⟩
abbrev rS20 : Oper := ⟨some 38, .call ⟨.builtin .len, #[.tmp 37], #[34]⟩, 3, "ref.go:22", #[⟨19, .data⟩, ⟨17, .guard⟩], some (17, true)⟩
abbrev rS21 : Oper := ⟨some 39, .binOp .eql 3 (.tmp 38) (.const (.int .i64 0)) 3, 4, "ref.go:22", #[⟨20, .data⟩, ⟨17, .guard⟩], some (17, true)⟩
abbrev rS22 : Oper := ⟨some 40, .pick (.tmp 35) (.tmp 39) (.const (.bool false)), 4, "ref.go:22", #[⟨17, .data⟩, ⟨21, .data⟩], none⟩
abbrev rS23 : Oper := ⟨some 2, .assign (.tmp 40), 4, "ref.go:22", #[⟨22, .data⟩, ⟨17, .chain⟩, ⟨0, .phase⟩, ⟨1, .phase⟩, ⟨2, .phase⟩, ⟨3, .phase⟩, ⟨4, .phase⟩, ⟨5, .phase⟩, ⟨6, .phase⟩, ⟨7, .phase⟩, ⟨8, .phase⟩, ⟨9, .phase⟩, ⟨10, .phase⟩, ⟨11, .phase⟩, ⟨12, .phase⟩, ⟨13, .phase⟩, ⟨14, .phase⟩, ⟨15, .phase⟩, ⟨16, .phase⟩, ⟨17, .phase⟩, ⟨18, .phase⟩, ⟨19, .phase⟩, ⟨20, .phase⟩, ⟨21, .phase⟩, ⟨22, .phase⟩], none⟩
theorem refSane_any (f : LF) (va vb : Value) (w : World) (ha : RunsAt w va f.a) (hb : RunsAt w vb f.b) (ia : I64R f.a) (ib : I64R f.b) (na : f.a.length ≤ 1000000) (nb : f.b.length ≤ 1000000) :
  Calls Tryz.prog 153 #[leafV f va vb] w fun e w' => e = .returned (.bool (leafB f)) ∧ Kp w w' := by
 obtain ⟨sp, u, a, b⟩ := f
 obtain ⟨ad, ca, rfl⟩ := ha.slice
 obtain ⟨bd, cb, rfl⟩ := hb.slice
 unfold leafV
 simp only at ha hb ia ib na nb ⊢
 cases sp with
 | true =>
  have E : leafB ⟨true, u, a, b⟩ = ((u == 0) && (setB 0 a && setB 0 b)) := rfl
  rw [E]
  have CA := Hd (fun w1 (kk : Kp w w1) => rwithin_any _ a 3652424 w1 (ha.kp kk) ia na)
  have CB := Hd (fun w1 (kk : Kp w w1) => rwithin_any _ b 3652424 w1 (hb.kp kk) ib nb)
  rw [withB_day] at CA CB
  clear ha hb ia ib E
  generalize setB 0 a = sa at *
  generalize setB 0 b = sb at *
  have K0 := Hd (Kp.alloc w (.cells #[.bool true, .int .i64 u, .slice ad a.length ca, .slice bd b.length cb] 44))
  by_cases hu : u = 0
  ·subst hu
   cases sa with
   | true =>
    go_enter Tryz.func153, Tryz.ntmps153
    go_wp2_with fail
    refine (CA.out _ K0.out).mono ?_
    rintro e w1 ⟨rfl, kk⟩
    have c3 := (Below.cell (p := ⟨w.heap.size, 3, none⟩) kk (by simp)).trans (show _ = some (.slice bd b.length cb) by simp)
    have K1 := Hd (K0.out.trans kk)
    clear kk
    go_wp2_with fail
    refine (CB.out _ K1.out).mono ?_
    rintro e w2 ⟨rfl, kk⟩
    have K2 := Hd (K1.out.trans kk)
    clear kk
    go_wp2
    go_ret
    exact ⟨rfl, K2.out⟩
   | false =>
    go_enter Tryz.func153, Tryz.ntmps153
    go_wp2_with fail
    refine (CA.out _ K0.out).mono ?_
    rintro e w1 ⟨rfl, kk⟩
    have K1 := Hd (K0.out.trans kk)
    clear kk
    go_wp2
    go_ret
    exact ⟨rfl, K1.out⟩
  ·have q : (u == 0) = false := beq_eq_false_iff_ne.2 hu
   go_enter Tryz.func153, Tryz.ntmps153
   go_wp2
   go_ret
   exact ⟨by rw [q]; rfl, K0.out⟩
 | false =>
  have E : leafB ⟨false, u, a, b⟩ = (decide (0 < cnt u) && (setB u a && decide (b.length = 0))) := rfl
  rw [E]
  have CA := Hd (fun w1 (kk : Kp w w1) => rwithin_any _ a (cnt u - 1) w1 (ha.kp kk) ia na)
  rw [withB_setB] at CA
  have CN := Hd (fun w1 => rcount_any u w1)
  have cb1 := cnt_bd u
  have wc : IntKind.i64.wrap (cnt u - 1) = cnt u - 1 := IntWalk.i64_in _ (by omega)
  obtain ⟨W0, hW⟩ : ∃ W0, W0 = w.alloc (.cells #[.bool false, .int .i64 u, .slice ad a.length ca, .slice bd b.length cb] 44) := ⟨_, rfl⟩
  have K0 := Hd (show Kp w W0 by rw [hW]; exact Kp.alloc _ _)
  have HB := Hd (fun w1 (k : Kp W0 w1) => show w1.cell? ⟨w.heap.size, 0, none⟩ = some (.bool false) ∧ w1.cell? ⟨w.heap.size, 1, none⟩ = some (.int .i64 u) ∧ w1.cell? ⟨w.heap.size, 2, none⟩ = some (.slice ad a.length ca) ∧ w1.cell? ⟨w.heap.size, 3, none⟩ = some (.slice bd b.length cb) from ⟨cell_up k (by rw [hW]; simp), cell_up k (by rw [hW]; simp), cell_up k (by rw [hW]; simp), cell_up k (by rw [hW]; simp)⟩)
  have HW := Hd hW
  clear ha hb ia ib E hW
  by_cases u0 : 0 ≤ u
  ·by_cases u5 : u ≤ 5
   ·have hm : decide (0 < cnt u) = true := decide_eq_true (by unfold cnt; (repeat' split) <;> omega)
    rw [hm]
    have q0 : decide (0 ≤ u) = true := decide_eq_true u0
    have q5 : decide (u ≤ 5) = true := decide_eq_true u5
    generalize cnt u = m at *
    generalize setB u a = sa at *
    obtain ⟨z, hz⟩ : ∃ z, decide (b.length = 0) = z := ⟨_, rfl⟩
    have q : ((b.length : Int) == 0) = z := by rw [← hz]; exact len_zero _
    rw [hz]
    clear hz u0 u5 hm
    cases sa with
    | true =>
     have KS := Hd (fun w' (kq : Kp W0 w') => show w'.cell? ⟨w.heap.size, 0, none⟩ = some (.bool false) ∧ w'.cell? ⟨w.heap.size, 1, none⟩ = some (.int .i64 u) ∧ w'.cell? ⟨w.heap.size, 2, none⟩ = some (.slice ad a.length ca) ∧ w'.cell? ⟨w.heap.size, 3, none⟩ = some (.slice bd b.length cb) ∧ Kp W0 w' from ⟨(HB.out w' kq).1, (HB.out w' kq).2.1, (HB.out w' kq).2.2.1, (HB.out w' kq).2.2.2, kq⟩)
     go_enter Tryz.func153, Tryz.ntmps153
     obtain ⟨c0, c1, c2, c3⟩ := HB.out W0 (Kp.refl _)
     go_wp2_with fail
     rw [← HW.out]
     refine wp_region_held_drew (S := fun w' => w'.cell? ⟨w.heap.size, 0, none⟩ = some (.bool false) ∧ w'.cell? ⟨w.heap.size, 1, none⟩ = some (.int .i64 u) ∧ w'.cell? ⟨w.heap.size, 2, none⟩ = some (.slice ad a.length ca) ∧ w'.cell? ⟨w.heap.size, 3, none⟩ = some (.slice bd b.length cb) ∧ Kp W0 w') (by kernel_rfl) ?_ (fun hHeld0 => ?_)
     ·(try dsimp only); exact KS.out _ kw
     refine tkv 0 rS0 ?_
     (try simp only [Act.put, rS0, xA, xB, xC])
     refine tkv 1 rS1 ?_
     (try simp only [Act.put, rS1, xA, xB, xC])
     refine tkv 2 rS2 ?_
     (try simp only [Act.put, rS2, xA, xB, xC])
     refine tkv 3 rS3 ?_
     (try simp only [Act.put, rS3, xA, xB, xC])
     refine tkv 4 rS4 ?_
     (try simp only [Act.put, rS4, xA, xB, xC])
     refine tkv 5 rS5 ?_
     (try simp only [Act.put, rS5, xA, xB, xC])
     refine tkv 6 rS6 ?_
     (try simp only [Act.put, rS6, xA, xB, xC])
     refine tkv 7 rS7 ?_
     (try simp only [Act.put, rS7, xA, xB, xC])
     refine tkv 8 rS8 ?_
     (try simp only [Act.put, rS8, xA, xB, xC])
     refine tkv 9 rS9 ?_
     (try simp only [Act.put, rS9, xA, xB, xC])
     refine tkv 10 rS10 ?_
     (try simp only [Act.put, rS10, xA, xB, xC])
     refine tkv 11 rS11 ?_
     (try simp only [Act.put, rS11, xA, xB, xC])
     refine tkv 12 rS12 ?_
     (try simp only [Act.put, rS12, xA, xB, xC])
     refine tkE 13 rS13 rfl (by kernel_rfl) (fun K hK => ?_)
     go_simp
     (refine (CN.out _).mono ?_; rintro e w' ⟨rfl, rfl⟩)
     (try go_wp2_with fail)
     refine hK.out _ _ ?_ (fun hHeld1 => ?_)
     ·(try dsimp only); exact KS.out _ kw
     clear hK K hHeld0
     (try simp only [Act.put, rS13, xA, xB, xC])
     refine tkv 14 rS14 ?_
     (try simp only [Act.put, rS14, xA, xB, xC])
     refine tkE 15 rS15 rfl (by kernel_rfl) (fun K hK => ?_)
     go_simp
     (refine (CA.out _ (K0.out.trans kw)).mono ?_; rintro e w' ⟨rfl, k1⟩; have k2 := Kp.trans (show Kp W0 _ from kw) k1; clear k1)
     (try go_wp2_with fail)
     refine hK.out _ _ ?_ (fun hHeld2 => ?_)
     ·(try dsimp only); exact KS.out _ kw
     clear hK K hHeld1
     (try simp only [Act.put, rS15, xA, xB, xC])
     refine tkv 16 rS16 ?_
     (try simp only [Act.put, rS16, xA, xB, xC])
     refine tkv 17 rS17 ?_
     (try simp only [Act.put, rS17, xA, xB, xC])
     refine tkv 18 rS18 ?_
     (try simp only [Act.put, rS18, xA, xB, xC])
     refine tkv 19 rS19 ?_
     (try simp only [Act.put, rS19, xA, xB, xC])
     refine tkv 20 rS20 ?_
     (try simp only [Act.put, rS20, xA, xB, xC])
     refine tkv 21 rS21 ?_
     (try simp only [Act.put, rS21, xA, xB, xC])
     refine tkv 22 rS22 ?_
     (try simp only [Act.put, rS22, xA, xB, xC])
     refine tkv 23 rS23 ?_
     (try simp only [Act.put, rS23, xA, xB, xC])
     refine wpAnyH_done (by kernel_rfl) ?_ _
     go_wp2
     go_ret
     exact ⟨by first | rfl | simp [*], K0.out.trans kw⟩
    | false =>
     have KS := Hd (fun w' (kq : Kp W0 w') => show w'.cell? ⟨w.heap.size, 0, none⟩ = some (.bool false) ∧ w'.cell? ⟨w.heap.size, 1, none⟩ = some (.int .i64 u) ∧ w'.cell? ⟨w.heap.size, 2, none⟩ = some (.slice ad a.length ca) ∧ w'.cell? ⟨w.heap.size, 3, none⟩ = some (.slice bd b.length cb) ∧ Kp W0 w' from ⟨(HB.out w' kq).1, (HB.out w' kq).2.1, (HB.out w' kq).2.2.1, (HB.out w' kq).2.2.2, kq⟩)
     go_enter Tryz.func153, Tryz.ntmps153
     obtain ⟨c0, c1, c2, c3⟩ := HB.out W0 (Kp.refl _)
     go_wp2_with fail
     rw [← HW.out]
     refine wp_region_held_drew (S := fun w' => w'.cell? ⟨w.heap.size, 0, none⟩ = some (.bool false) ∧ w'.cell? ⟨w.heap.size, 1, none⟩ = some (.int .i64 u) ∧ w'.cell? ⟨w.heap.size, 2, none⟩ = some (.slice ad a.length ca) ∧ w'.cell? ⟨w.heap.size, 3, none⟩ = some (.slice bd b.length cb) ∧ Kp W0 w') (by kernel_rfl) ?_ (fun hHeld0 => ?_)
     ·(try dsimp only); exact KS.out _ kw
     refine tkv 0 rS0 ?_
     (try simp only [Act.put, rS0, xA, xB, xC])
     refine tkv 1 rS1 ?_
     (try simp only [Act.put, rS1, xA, xB, xC])
     refine tkv 2 rS2 ?_
     (try simp only [Act.put, rS2, xA, xB, xC])
     refine tkv 3 rS3 ?_
     (try simp only [Act.put, rS3, xA, xB, xC])
     refine tkv 4 rS4 ?_
     (try simp only [Act.put, rS4, xA, xB, xC])
     refine tkv 5 rS5 ?_
     (try simp only [Act.put, rS5, xA, xB, xC])
     refine tkv 6 rS6 ?_
     (try simp only [Act.put, rS6, xA, xB, xC])
     refine tkv 7 rS7 ?_
     (try simp only [Act.put, rS7, xA, xB, xC])
     refine tkv 8 rS8 ?_
     (try simp only [Act.put, rS8, xA, xB, xC])
     refine tkv 9 rS9 ?_
     (try simp only [Act.put, rS9, xA, xB, xC])
     refine tkv 10 rS10 ?_
     (try simp only [Act.put, rS10, xA, xB, xC])
     refine tkv 11 rS11 ?_
     (try simp only [Act.put, rS11, xA, xB, xC])
     refine tkv 12 rS12 ?_
     (try simp only [Act.put, rS12, xA, xB, xC])
     refine tkE 13 rS13 rfl (by kernel_rfl) (fun K hK => ?_)
     go_simp
     (refine (CN.out _).mono ?_; rintro e w' ⟨rfl, rfl⟩)
     (try go_wp2_with fail)
     refine hK.out _ _ ?_ (fun hHeld1 => ?_)
     ·(try dsimp only); exact KS.out _ kw
     clear hK K hHeld0
     (try simp only [Act.put, rS13, xA, xB, xC])
     refine tkv 14 rS14 ?_
     (try simp only [Act.put, rS14, xA, xB, xC])
     refine tkE 15 rS15 rfl (by kernel_rfl) (fun K hK => ?_)
     go_simp
     (refine (CA.out _ (K0.out.trans kw)).mono ?_; rintro e w' ⟨rfl, k1⟩; have k2 := Kp.trans (show Kp W0 _ from kw) k1; clear k1)
     (try go_wp2_with fail)
     refine hK.out _ _ ?_ (fun hHeld2 => ?_)
     ·(try dsimp only); exact KS.out _ kw
     clear hK K hHeld1
     (try simp only [Act.put, rS15, xA, xB, xC])
     refine tkv 16 rS16 ?_
     (try simp only [Act.put, rS16, xA, xB, xC])
     refine tkv 17 rS17 ?_
     (try simp only [Act.put, rS17, xA, xB, xC])
     refine tkn 18 rS18 ?_
     (try simp only [Act.put, rS18, xA, xB, xC])
     refine tkn 19 rS19 ?_
     (try simp only [Act.put, rS19, xA, xB, xC])
     refine tkn 20 rS20 ?_
     (try simp only [Act.put, rS20, xA, xB, xC])
     refine tkn 21 rS21 ?_
     (try simp only [Act.put, rS21, xA, xB, xC])
     refine tkv 22 rS22 ?_
     (try simp only [Act.put, rS22, xA, xB, xC])
     refine tkv 23 rS23 ?_
     (try simp only [Act.put, rS23, xA, xB, xC])
     refine wpAnyH_done (by kernel_rfl) ?_ _
     go_wp2
     go_ret
     exact ⟨by first | rfl | simp [*], K0.out.trans kw⟩
   ·have hm : decide (0 < cnt u) = false := decide_eq_false (by have := cnt_no (k := u) (.inr (by omega)); omega)
    rw [hm]
    have q0 : decide (0 ≤ u) = true := decide_eq_true u0
    have q5 : decide (u ≤ 5) = false := decide_eq_false u5
    generalize cnt u = m at *
    clear u0 u5 hm
    have KS := Hd (fun w' (kq : Kp W0 w') => show w'.cell? ⟨w.heap.size, 0, none⟩ = some (.bool false) ∧ w'.cell? ⟨w.heap.size, 1, none⟩ = some (.int .i64 u) ∧ w'.cell? ⟨w.heap.size, 2, none⟩ = some (.slice ad a.length ca) ∧ w'.cell? ⟨w.heap.size, 3, none⟩ = some (.slice bd b.length cb) ∧ Kp W0 w' from ⟨(HB.out w' kq).1, (HB.out w' kq).2.1, (HB.out w' kq).2.2.1, (HB.out w' kq).2.2.2, kq⟩)
    go_enter Tryz.func153, Tryz.ntmps153
    obtain ⟨c0, c1, c2, c3⟩ := HB.out W0 (Kp.refl _)
    go_wp2_with fail
    rw [← HW.out]
    refine wp_region_held_drew (S := fun w' => w'.cell? ⟨w.heap.size, 0, none⟩ = some (.bool false) ∧ w'.cell? ⟨w.heap.size, 1, none⟩ = some (.int .i64 u) ∧ w'.cell? ⟨w.heap.size, 2, none⟩ = some (.slice ad a.length ca) ∧ w'.cell? ⟨w.heap.size, 3, none⟩ = some (.slice bd b.length cb) ∧ Kp W0 w') (by kernel_rfl) ?_ (fun hHeld0 => ?_)
    ·(try dsimp only); exact KS.out _ kw
    refine tkv 0 rS0 ?_
    (try simp only [Act.put, rS0, xA, xB, xC])
    refine tkv 1 rS1 ?_
    (try simp only [Act.put, rS1, xA, xB, xC])
    refine tkv 2 rS2 ?_
    (try simp only [Act.put, rS2, xA, xB, xC])
    refine tkv 3 rS3 ?_
    (try simp only [Act.put, rS3, xA, xB, xC])
    refine tkv 4 rS4 ?_
    (try simp only [Act.put, rS4, xA, xB, xC])
    refine tkv 5 rS5 ?_
    (try simp only [Act.put, rS5, xA, xB, xC])
    refine tkv 6 rS6 ?_
    (try simp only [Act.put, rS6, xA, xB, xC])
    refine tkv 7 rS7 ?_
    (try simp only [Act.put, rS7, xA, xB, xC])
    refine tkv 8 rS8 ?_
    (try simp only [Act.put, rS8, xA, xB, xC])
    refine tkn 9 rS9 ?_
    (try simp only [Act.put, rS9, xA, xB, xC])
    refine tkn 10 rS10 ?_
    (try simp only [Act.put, rS10, xA, xB, xC])
    refine tkn 11 rS11 ?_
    (try simp only [Act.put, rS11, xA, xB, xC])
    refine tkn 12 rS12 ?_
    (try simp only [Act.put, rS12, xA, xB, xC])
    refine tkn 13 rS13 ?_
    (try simp only [Act.put, rS13, xA, xB, xC])
    refine tkn 14 rS14 ?_
    (try simp only [Act.put, rS14, xA, xB, xC])
    refine tkn 15 rS15 ?_
    (try simp only [Act.put, rS15, xA, xB, xC])
    refine tkv 16 rS16 ?_
    (try simp only [Act.put, rS16, xA, xB, xC])
    refine tkv 17 rS17 ?_
    (try simp only [Act.put, rS17, xA, xB, xC])
    refine tkn 18 rS18 ?_
    (try simp only [Act.put, rS18, xA, xB, xC])
    refine tkn 19 rS19 ?_
    (try simp only [Act.put, rS19, xA, xB, xC])
    refine tkn 20 rS20 ?_
    (try simp only [Act.put, rS20, xA, xB, xC])
    refine tkn 21 rS21 ?_
    (try simp only [Act.put, rS21, xA, xB, xC])
    refine tkv 22 rS22 ?_
    (try simp only [Act.put, rS22, xA, xB, xC])
    refine tkv 23 rS23 ?_
    (try simp only [Act.put, rS23, xA, xB, xC])
    refine wpAnyH_done (by kernel_rfl) ?_ _
    go_wp2
    go_ret
    exact ⟨by first | rfl | simp [*], K0.out.trans kw⟩
  ·have hm : decide (0 < cnt u) = false := decide_eq_false (by have := cnt_no (k := u) (.inl (by omega)); omega)
   rw [hm]
   have q0 : decide (0 ≤ u) = false := decide_eq_false u0
   generalize cnt u = m at *
   clear u0 hm
   have KS := Hd (fun w' (kq : Kp W0 w') => show w'.cell? ⟨w.heap.size, 0, none⟩ = some (.bool false) ∧ w'.cell? ⟨w.heap.size, 1, none⟩ = some (.int .i64 u) ∧ w'.cell? ⟨w.heap.size, 2, none⟩ = some (.slice ad a.length ca) ∧ w'.cell? ⟨w.heap.size, 3, none⟩ = some (.slice bd b.length cb) ∧ Kp W0 w' from ⟨(HB.out w' kq).1, (HB.out w' kq).2.1, (HB.out w' kq).2.2.1, (HB.out w' kq).2.2.2, kq⟩)
   go_enter Tryz.func153, Tryz.ntmps153
   obtain ⟨c0, c1, c2, c3⟩ := HB.out W0 (Kp.refl _)
   go_wp2_with fail
   rw [← HW.out]
   refine wp_region_held_drew (S := fun w' => w'.cell? ⟨w.heap.size, 0, none⟩ = some (.bool false) ∧ w'.cell? ⟨w.heap.size, 1, none⟩ = some (.int .i64 u) ∧ w'.cell? ⟨w.heap.size, 2, none⟩ = some (.slice ad a.length ca) ∧ w'.cell? ⟨w.heap.size, 3, none⟩ = some (.slice bd b.length cb) ∧ Kp W0 w') (by kernel_rfl) ?_ (fun hHeld0 => ?_)
   ·(try dsimp only); exact KS.out _ kw
   refine tkv 0 rS0 ?_
   (try simp only [Act.put, rS0, xA, xB, xC])
   refine tkv 1 rS1 ?_
   (try simp only [Act.put, rS1, xA, xB, xC])
   refine tkv 2 rS2 ?_
   (try simp only [Act.put, rS2, xA, xB, xC])
   refine tkv 3 rS3 ?_
   (try simp only [Act.put, rS3, xA, xB, xC])
   refine tkn 4 rS4 ?_
   (try simp only [Act.put, rS4, xA, xB, xC])
   refine tkn 5 rS5 ?_
   (try simp only [Act.put, rS5, xA, xB, xC])
   refine tkn 6 rS6 ?_
   (try simp only [Act.put, rS6, xA, xB, xC])
   refine tkv 7 rS7 ?_
   (try simp only [Act.put, rS7, xA, xB, xC])
   refine tkv 8 rS8 ?_
   (try simp only [Act.put, rS8, xA, xB, xC])
   refine tkn 9 rS9 ?_
   (try simp only [Act.put, rS9, xA, xB, xC])
   refine tkn 10 rS10 ?_
   (try simp only [Act.put, rS10, xA, xB, xC])
   refine tkn 11 rS11 ?_
   (try simp only [Act.put, rS11, xA, xB, xC])
   refine tkn 12 rS12 ?_
   (try simp only [Act.put, rS12, xA, xB, xC])
   refine tkn 13 rS13 ?_
   (try simp only [Act.put, rS13, xA, xB, xC])
   refine tkn 14 rS14 ?_
   (try simp only [Act.put, rS14, xA, xB, xC])
   refine tkn 15 rS15 ?_
   (try simp only [Act.put, rS15, xA, xB, xC])
   refine tkv 16 rS16 ?_
   (try simp only [Act.put, rS16, xA, xB, xC])
   refine tkv 17 rS17 ?_
   (try simp only [Act.put, rS17, xA, xB, xC])
   refine tkn 18 rS18 ?_
   (try simp only [Act.put, rS18, xA, xB, xC])
   refine tkn 19 rS19 ?_
   (try simp only [Act.put, rS19, xA, xB, xC])
   refine tkn 20 rS20 ?_
   (try simp only [Act.put, rS20, xA, xB, xC])
   refine tkn 21 rS21 ?_
   (try simp only [Act.put, rS21, xA, xB, xC])
   refine tkv 22 rS22 ?_
   (try simp only [Act.put, rS22, xA, xB, xC])
   refine tkv 23 rS23 ?_
   (try simp only [Act.put, rS23, xA, xB, xC])
   refine wpAnyH_done (by kernel_rfl) ?_ _
   go_wp2
   go_ret
   exact ⟨by first | rfl | simp [*], K0.out.trans kw⟩
def asL (f : LF) : LF := if leafB f = true then f else lf0
theorem refAsV_any (f : LF) (va vb : Value) (w0 w : World) (h0 : LeafOk w0 f va vb) (k0 : Kp w0 w) :
  Calls Tryz.prog 97 #[leafV f va vb] w fun e w' => ∃ va' vb', e = .returned (leafV (asL f) va' vb') ∧ LeafOk w' (asL f) va' vb' ∧ Kp w w' ∧ LeafOk w0 (asL f) va' vb' := by
 have h := h0.kp k0
 have C := Hd (fun w1 (kk : Kp w w1) => refSane_any f va vb w1 (h.a.kp kk) (h.b.kp kk) h.ia h.ib (Nat.le_trans h.na (by decide)) (Nat.le_trans h.nb (by decide)))
 have HO := Hd h
 have HO0 := Hd h0
 rw [show asL f = if leafB f = true then f else lf0 from rfl]
 generalize leafB f = q at *
 obtain ⟨sp, u, a, b⟩ := f
 obtain ⟨ad, ca, rfl⟩ := h.a.slice
 obtain ⟨bd, cb, rfl⟩ := h.b.slice
 unfold leafV at C
 rw [show leafV ⟨sp, u, a, b⟩ (.slice ad a.length ca) (.slice bd b.length cb) = .agg #[.bool sp, .int .i64 u, .slice ad a.length ca, .slice bd b.length cb] from rfl]
 simp only at C HO HO0 ⊢
 have K0 := Hd ((Kp.alloc w (.cells #[.bool sp, .int .i64 u, .slice ad a.length ca, .slice bd b.length cb] 44)).trans (Kp.alloc _ (.cells #[.bool false, .int .i64 0, .slice none 0 0, .slice none 0 0] 44)))
 clear h h0 k0
 cases q with
 | false =>
  rw [if_neg (by decide)]
  go_enter Tryz.func97, Tryz.ntmps97
  go_wp2_with fail
  refine (C.out _ K0.out).mono ?_
  rintro e w1 ⟨rfl, kk⟩
  have hB := (kk.block (w.heap.size + 1) (by simp)).trans (heap_at (w.alloc _) (.cells #[.bool false, .int .i64 0, .slice none 0 0, .slice none 0 0] 44 (0, 0)) (w.heap.size + 1) (by simp))
  have s1 := kk.size
  simp at s1
  have z2 : ¬ w.heap.size + 1 = w1.heap.size := by omega
  have z3 : w.heap.size + 1 < w1.heap.size := by omega
  have z4 : ¬ w.heap.size = w1.heap.size := by omega
  have z5 : w.heap.size < w1.heap.size := by omega
  have r0 : w1.cell? ⟨w.heap.size + 1, 0, none⟩ = some (.bool false) := by simp [World.cell?, hB]
  have r1 : w1.cell? ⟨w.heap.size + 1, 1, none⟩ = some (.int .i64 0) := by simp [World.cell?, hB]
  have r2 : w1.cell? ⟨w.heap.size + 1, 2, none⟩ = some (.slice none 0 0) := by simp [World.cell?, hB]
  have r3 : w1.cell? ⟨w.heap.size + 1, 3, none⟩ = some (.slice none 0 0) := by simp [World.cell?, hB]
  have f0 : w1.frozen? ⟨w.heap.size + 1, 0, none⟩ = false := by simp [World.frozen?, hB]
  have f1 : w1.frozen? ⟨w.heap.size + 1, 1, none⟩ = false := by simp [World.frozen?, hB]
  have f2 : w1.frozen? ⟨w.heap.size + 1, 2, none⟩ = false := by simp [World.frozen?, hB]
  have f3 : w1.frozen? ⟨w.heap.size + 1, 3, none⟩ = false := by simp [World.frozen?, hB]
  have K1 := Hd (K0.out.trans kk)
  clear kk C
  go_wp2
  have RD1 := fun o => set4_read hB (.bool false) (.int .i64 0) (.slice none 0 0) (.slice none 0 0) (Kp.alloc _ o)
  have RD2 := fun o o' => set4_read hB (.bool false) (.int .i64 0) (.slice none 0 0) (.slice none 0 0) ((Kp.alloc _ o).trans (Kp.alloc _ o'))
  have RD0 := set4_read hB (.bool false) (.int .i64 0) (.slice none 0 0) (.slice none 0 0) (Kp.refl _)
  exact bodyPost_ret (v := .agg #[.bool false, .int .i64 0, .slice none 0 0, .slice none 0 0]) (by simp [results, Tryz.f97, go_sem, RD0, RD1, RD2]) rfl ⟨.slice none 0 0, .slice none 0 0, rfl, lf0_ok _, (set4_below K1.out (w.heap.size + 1) (by omega) _ _ _ _).trans kx, lf0_ok _⟩
 | true =>
  rw [if_pos rfl]
  go_enter Tryz.func97, Tryz.ntmps97
  go_wp2_with fail
  refine (C.out _ K0.out).mono ?_
  rintro e w1 ⟨rfl, kk⟩
  have hB := (kk.block (w.heap.size + 1) (by simp)).trans (heap_at (w.alloc _) (.cells #[.bool false, .int .i64 0, .slice none 0 0, .slice none 0 0] 44 (0, 0)) (w.heap.size + 1) (by simp))
  have s1 := kk.size
  simp at s1
  have z2 : ¬ w.heap.size + 1 = w1.heap.size := by omega
  have z3 : w.heap.size + 1 < w1.heap.size := by omega
  have z4 : ¬ w.heap.size = w1.heap.size := by omega
  have z5 : w.heap.size < w1.heap.size := by omega
  have r0 : w1.cell? ⟨w.heap.size + 1, 0, none⟩ = some (.bool false) := by simp [World.cell?, hB]
  have r1 : w1.cell? ⟨w.heap.size + 1, 1, none⟩ = some (.int .i64 0) := by simp [World.cell?, hB]
  have r2 : w1.cell? ⟨w.heap.size + 1, 2, none⟩ = some (.slice none 0 0) := by simp [World.cell?, hB]
  have r3 : w1.cell? ⟨w.heap.size + 1, 3, none⟩ = some (.slice none 0 0) := by simp [World.cell?, hB]
  have f0 : w1.frozen? ⟨w.heap.size + 1, 0, none⟩ = false := by simp [World.frozen?, hB]
  have f1 : w1.frozen? ⟨w.heap.size + 1, 1, none⟩ = false := by simp [World.frozen?, hB]
  have f2 : w1.frozen? ⟨w.heap.size + 1, 2, none⟩ = false := by simp [World.frozen?, hB]
  have f3 : w1.frozen? ⟨w.heap.size + 1, 3, none⟩ = false := by simp [World.frozen?, hB]
  have c0 := (Below.cell (p := ⟨w.heap.size, 0, none⟩) kk (by simp; omega)).trans (show _ = some (.bool sp) by simp)
  have c1' := (Below.cell (p := ⟨w.heap.size, 1, none⟩) kk (by simp; omega)).trans (show _ = some (.int .i64 u) by simp)
  have c2 := (Below.cell (p := ⟨w.heap.size, 2, none⟩) kk (by simp; omega)).trans (show _ = some (.slice ad a.length ca) by simp)
  have c3 := (Below.cell (p := ⟨w.heap.size, 3, none⟩) kk (by simp; omega)).trans (show _ = some (.slice bd b.length cb) by simp)
  have K1 := Hd (K0.out.trans kk)
  clear kk C
  go_wp2
  have RD1 := fun o => set4_read hB (.bool sp) (.int .i64 u) (.slice ad a.length ca) (.slice bd b.length cb) (Kp.alloc _ o)
  have RD2 := fun o o' => set4_read hB (.bool sp) (.int .i64 u) (.slice ad a.length ca) (.slice bd b.length cb) ((Kp.alloc _ o).trans (Kp.alloc _ o'))
  have RD0 := set4_read hB (.bool sp) (.int .i64 u) (.slice ad a.length ca) (.slice bd b.length cb) (Kp.refl _)
  exact bodyPost_ret (v := .agg #[.bool sp, .int .i64 u, .slice ad a.length ca, .slice bd b.length cb]) (by simp [results, Tryz.f97, go_sem, RD0, RD1, RD2]) rfl ⟨_, _, rfl, HO.out.kp ((set4_below K1.out (w.heap.size + 1) (by omega) _ _ _ _).trans kx), (set4_below K1.out (w.heap.size + 1) (by omega) _ _ _ _).trans kx, HO0.out⟩
def goneB (g : LF) : Bool := decide (g.a.length = 0) || (g.sp && (decide (g.b.length = 0) || decide (greatR g.b < leastR g.a)))
noncomputable def tidL (g : LF) : LF := if goneB g = true then lf0 else if g.sp = true then ⟨true, 0, interR g.a [(0, greatR g.b)], interR g.b [(leastR g.a, 3652424)]⟩ else g
theorem len_mem {s : List R} (h : sane s) : s.length = 0 ↔ ∀ n, ¬ memR s n := by
 constructor
 ·intro h0 n hn
  have := mem_pos hn
  omega
 ·intro g
  rcases Nat.eq_zero_or_pos s.length with e | e
  ·exact e
  ·exact absurd (least_mem h e) (g _)
theorem tidL_as (f : LF) : tidL (asL f) = lfOf (famR f) := by
 unfold asL
 rcases Bool.eq_false_or_eq_true (leafB f) with hb | hb
 ·rw [if_pos hb]
  rcases Bool.eq_false_or_eq_true f.sp with hs | hs
  ·obtain ⟨hu, h1, h2⟩ := leafB_span hb hs
   by_cases h0 : f.a.length = 0 ∨ f.b.length = 0
   ·rw [famR_none hb hs h0, lfOf_s0 rfl]
    unfold tidL
    rw [if_pos]
    unfold goneB
    rw [hs]
    rcases h0 with h0 | h0 <;> simp [h0]
   ·rw [famR_span hb hs h0]
    have pa : 0 < f.a.length := by omega
    have pb : 0 < f.b.length := by omega
    have sm := span_mem hb hs h0
    have ss : sane (interR f.a [(0, greatR f.b)]) := interR_sane _ _
    by_cases hg : greatR f.b < leastR f.a
    ·rw [lfOf_s0 ((len_mem ss).2 (fun n hn => by
      have a1 := ((sm n).1.1 hn)
      have a2 := least_min (setB_sane h1) a1.1
      omega))]
     unfold tidL
     rw [if_pos]
     unfold goneB
     rw [hs, decide_eq_true hg]
     simp
    ·rw [lfOf_s1 (fun e => (len_mem ss).1 e (leastR f.a) ((sm _).1.2 ⟨least_mem (setB_sane h1) pa, by omega⟩))]
     unfold tidL
     rw [if_neg, if_pos hs]
     unfold goneB
     rw [hs, decide_eq_false hg, dF, dF]
     simp
  ·obtain ⟨hc, h1, h2⟩ := leafB_units hb hs
   rw [famR_units hb hs]
   by_cases h0 : f.a.length = 0
   ·rw [lfOf_u0 h0]
    unfold tidL
    rw [if_pos]
    unfold goneB
    rw [decide_eq_true h0]
    rfl
   ·rw [lfOf_u1 h0]
    unfold tidL
    rw [if_neg, if_neg (by rw [hs]; decide)]
    ·obtain ⟨sp, u, a, b⟩ := f
     simp only at hs h2 ⊢
     rw [hs, h2]
    ·unfold goneB
     rw [hs, decide_eq_false h0]
     simp
 ·rw [if_neg (by rw [hb]; decide), famR_no hb, lfOf_u0 rfl]
  rfl
abbrev uA0 : Oper := ⟨some 8, .fieldAddr 44 (.tmp 3) 2, 0, "ref.go:36", #[], none⟩
abbrev uA1 : Oper := ⟨some 9, .load 34 (.tmp 8), 34, "ref.go:36", #[⟨0, .data⟩], none⟩
abbrev uA2 : Oper := ⟨some 10, .call ⟨.builtin .len, #[.tmp 9], #[34]⟩, 3, "ref.go:36", #[⟨1, .data⟩], none⟩
abbrev uA3 : Oper := ⟨some 11, .binOp .eql 3 (.tmp 10) (.const (.int .i64 0)) 3, 4, "ref.go:36", #[⟨2, .data⟩], none⟩
abbrev uA4 : Oper := ⟨some 12, .move (.tmp 11), 4, "ref.go:36", #[⟨3, .data⟩], none⟩
abbrev uA5 : Oper := ⟨some 13, .fieldAddr 44 (.tmp 3) 0, 0, "ref.go:36", #[⟨4, .guard⟩], some (4, false)⟩
abbrev uA6 : Oper := ⟨some 14, .load 4 (.tmp 13), 4, "ref.go:36", #[⟨5, .data⟩, ⟨4, .guard⟩], some (4, false)⟩
abbrev uA7 : Oper := ⟨some 15, .move (.tmp 14), 4, "ref.go:36", #[⟨6, .data⟩, ⟨4, .chain⟩, ⟨4, .guard⟩], some (4, false)⟩
abbrev uA8 : Oper := ⟨some 16, .fieldAddr 44 (.tmp 3) 3, 0, "ref.go:36", #[⟨7, .guard⟩], some (7, true)⟩
abbrev uA9 : Oper := ⟨some 17, .load 34 (.tmp 16), 34, "ref.go:36", #[⟨8, .data⟩, ⟨7, .guard⟩], some (7, true)⟩
abbrev uA10 : Oper := ⟨some 18, .call ⟨.builtin .len, #[.tmp 17], #[34]⟩, 3, "ref.go:36", #[⟨9, .data⟩, ⟨7, .guard⟩], some (7, true)⟩
abbrev uA11 : Oper := ⟨some 19, .binOp .eql 3 (.tmp 18) (.const (.int .i64 0)) 3, 4, "ref.go:36", #[⟨10, .data⟩, ⟨7, .guard⟩], some (7, true)⟩
abbrev uA12 : Oper := ⟨some 20, .move (.tmp 19), 4, "ref.go:36", #[⟨11, .data⟩, ⟨7, .chain⟩, ⟨7, .guard⟩], some (7, true)⟩
abbrev uA13 : Oper := ⟨some 21, .fieldAddr 44 (.tmp 3) 2, 0, "ref.go:36", #[⟨12, .guard⟩], some (12, false)⟩
abbrev uA14 : Oper := ⟨some 22, .load 34 (.tmp 21), 34, "ref.go:36", #[⟨13, .data⟩, ⟨12, .guard⟩], some (12, false)⟩
abbrev uA15 : Oper := ⟨some 23, .indexAddr 34 (.tmp 22) (.const (.int .i64 0)), 0, "ref.go:36", #[⟨14, .data⟩, ⟨12, .guard⟩], some (12, false)⟩
abbrev uA16 : Oper := ⟨some 24, .fieldAddr 42 (.tmp 23) 0, 0, "ref.go:36", #[⟨15, .data⟩, ⟨12, .guard⟩], some (12, false)⟩
abbrev uA17 : Oper := ⟨some 25, .load 3 (.tmp 24), 3, "ref.go:36", #[⟨16, .data⟩, ⟨12, .guard⟩], some (12, false)⟩
abbrev uA18 : Oper := ⟨some 26, .fieldAddr 44 (.tmp 3) 3, 0, "ref.go:36", #[⟨12, .guard⟩], some (12, false)⟩
abbrev uA19 : Oper := ⟨some 27, .load 34 (.tmp 26), 34, "ref.go:36", #[⟨18, .data⟩, ⟨12, .guard⟩], some (12, false)⟩
abbrev uA20 : Oper := ⟨some 28, .fieldAddr 44 (.tmp 3) 3, 0, "ref.go:36", #[⟨12, .guard⟩], some (12, false)⟩
abbrev uA21 : Oper := ⟨some 29, .load 34 (.tmp 28), 34, "ref.go:36", #[⟨20, .data⟩, ⟨12, .guard⟩], some (12, false)⟩
abbrev uA22 : Oper := ⟨some 30, .call ⟨.builtin .len, #[.tmp 29], #[34]⟩, 3, "ref.go:36", #[⟨21, .data⟩, ⟨12, .guard⟩], some (12, false)⟩
abbrev uA23 : Oper := ⟨some 31, .binOp .sub 3 (.tmp 30) (.const (.int .i64 1)) 3, 3, "ref.go:36", #[⟨22, .data⟩, ⟨12, .guard⟩], some (12, false)⟩
abbrev uA24 : Oper := ⟨some 32, .indexAddr 34 (.tmp 27) (.tmp 31), 0, "ref.go:36", #[⟨19, .data⟩, ⟨23, .data⟩, ⟨12, .guard⟩], some (12, false)⟩
abbrev uA25 : Oper := ⟨some 33, .fieldAddr 42 (.tmp 32) 1, 0, "ref.go:36", #[⟨24, .data⟩, ⟨12, .guard⟩], some (12, false)⟩
abbrev uA26 : Oper := ⟨some 34, .load 3 (.tmp 33), 3, "ref.go:36", #[⟨25, .data⟩, ⟨12, .guard⟩], some (12, false)⟩
abbrev uA27 : Oper := ⟨some 35, .binOp .gtr 3 (.tmp 25) (.tmp 34) 3, 4, "ref.go:36", #[⟨17, .data⟩, ⟨26, .data⟩, ⟨12, .guard⟩], some (12, false)⟩
abbrev uA28 : Oper := ⟨some 36, .pick (.tmp 20) (.const (.bool true)) (.tmp 35), 4, "ref.go:36", #[⟨12, .data⟩, ⟨27, .data⟩, ⟨7, .guard⟩], some (7, true)⟩
abbrev uA29 : Oper := ⟨some 37, .pick (.tmp 15) (.tmp 36) (.const (.bool false)), 4, "ref.go:36", #[⟨7, .data⟩, ⟨28, .data⟩, ⟨4, .guard⟩], some (4, false)⟩
abbrev uA30 : Oper := ⟨some 38, .pick (.tmp 12) (.const (.bool true)) (.tmp 37), 4, "ref.go:36", #[⟨4, .data⟩, ⟨29, .data⟩], none⟩
abbrev uB0 : Oper := ⟨some 44, .fieldAddr 44 (.tmp 3) 2, 0, "ref.go:42", #[], none⟩
abbrev uB1 : Oper := ⟨some 45, .load 34 (.tmp 44), 34, "ref.go:42", #[⟨0, .data⟩], none⟩
abbrev uB2 : Oper := ⟨some 46, .fieldAddr 44 (.tmp 3) 3, 0, "ref.go:42", #[], none⟩
abbrev uB3 : Oper := ⟨some 47, .load 34 (.tmp 46), 34, "ref.go:42", #[⟨2, .data⟩], none⟩
abbrev uB4 : Oper := ⟨some 48, .fieldAddr 44 (.tmp 3) 3, 0, "ref.go:42", #[], none⟩
abbrev uB5 : Oper := ⟨some 49, .load 34 (.tmp 48), 34, "ref.go:42", #[⟨4, .data⟩], none⟩
abbrev uB6 : Oper := ⟨some 50, .call ⟨.builtin .len, #[.tmp 49], #[34]⟩, 3, "ref.go:42", #[⟨5, .data⟩], none⟩
abbrev uB7 : Oper := ⟨some 51, .binOp .sub 3 (.tmp 50) (.const (.int .i64 1)) 3, 3, "ref.go:42", #[⟨6, .data⟩], none⟩
abbrev uB8 : Oper := ⟨some 52, .indexAddr 34 (.tmp 47) (.tmp 51), 0, "ref.go:42", #[⟨3, .data⟩, ⟨7, .data⟩], none⟩
abbrev uB9 : Oper := ⟨some 53, .fieldAddr 42 (.tmp 52) 1, 0, "ref.go:42", #[⟨8, .data⟩], none⟩
abbrev uB10 : Oper := ⟨some 54, .load 3 (.tmp 53), 3, "ref.go:42", #[⟨9, .data⟩], none⟩
abbrev uB11 : Oper := ⟨some 55, .call ⟨.value (.func 137), #[.tmp 45, .const (.int .i64 0), .tmp 54], #[34, 3, 3]⟩, 34, "ref.go:42", #[⟨1, .data⟩, ⟨10, .data⟩], none⟩
abbrev uB12 : Oper := ⟨some 4, .assign (.tmp 55), 34, "ref.go:42", #[⟨11, .data⟩, ⟨11, .chain⟩, ⟨0, .phase⟩, ⟨1, .phase⟩, ⟨2, .phase⟩, ⟨3, .phase⟩, ⟨4, .phase⟩, ⟨5, .phase⟩, ⟨6, .phase⟩, ⟨7, .phase⟩, ⟨8, .phase⟩, ⟨9, .phase⟩, ⟨10, .phase⟩, ⟨11, .phase⟩], none⟩
abbrev uC0 : Oper := ⟨some 56, .fieldAddr 44 (.tmp 3) 3, 0, "ref.go:43", #[], none⟩
abbrev uC1 : Oper := ⟨some 57, .load 34 (.tmp 56), 34, "ref.go:43", #[⟨0, .data⟩], none⟩
abbrev uC2 : Oper := ⟨some 58, .fieldAddr 44 (.tmp 3) 2, 0, "ref.go:43", #[], none⟩
abbrev uC3 : Oper := ⟨some 59, .load 34 (.tmp 58), 34, "ref.go:43", #[⟨2, .data⟩], none⟩
abbrev uC4 : Oper := ⟨some 60, .indexAddr 34 (.tmp 59) (.const (.int .i64 0)), 0, "ref.go:43", #[⟨3, .data⟩], none⟩
abbrev uC5 : Oper := ⟨some 61, .fieldAddr 42 (.tmp 60) 0, 0, "ref.go:43", #[⟨4, .data⟩], none⟩
abbrev uC6 : Oper := ⟨some 62, .load 3 (.tmp 61), 3, "ref.go:43", #[⟨5, .data⟩], none⟩
abbrev uC7 : Oper := ⟨some 63, .call ⟨.value (.func 137), #[.tmp 57, .tmp 62, .const (.int .i64 3652424)], #[34, 3, 3]⟩, 34, "ref.go:43", #[⟨1, .data⟩, ⟨6, .data⟩], none⟩
abbrev uC8 : Oper := ⟨some 5, .assign (.tmp 63), 34, "ref.go:43", #[⟨7, .data⟩, ⟨7, .chain⟩, ⟨0, .phase⟩, ⟨1, .phase⟩, ⟨2, .phase⟩, ⟨3, .phase⟩, ⟨4, .phase⟩, ⟨5, .phase⟩, ⟨6, .phase⟩, ⟨7, .phase⟩], none⟩
theorem LeafOk.kp4 {w : World} {f : LF} {va vb : Value} (h : LeafOk w f va vb) {B : Nat} {t : TypeId} {x : Bool} {y : Int} {a b : Option Addr} {n c m d : Nat} {fr : Nat × Nat}
  (hB : w.heap[B]? = some (.cells #[.bool x, .int .i64 y, .slice a n c, .slice b m d] t fr)) {x0 x1 x2 x3 : Value} : LeafOk ((((w.setCell ⟨B, 0, none⟩ x0).setCell ⟨B, 1, none⟩ x1).setCell ⟨B, 2, none⟩ x2).setCell ⟨B, 3, none⟩ x3) f va vb :=
 ⟨h.a.off hB (fun k o e => set4_cell w B x0 x1 x2 x3 k o e), h.b.off hB (fun k o e => set4_cell w B x0 x1 x2 x3 k o e), h.ia, h.ib, h.na, h.nb⟩
theorem refTidyV_1 (spg : Bool) (ug : Int) (ag bg : List R) (iag : I64R ag) (ibg : I64R bg) (f : LF) (va vb : Value) (w0 w : World) (hL0 : LeafOk w0 f va vb) (k0 : Kp w0 w) (hf : asL f = ⟨spg, ug, ag, bg⟩) (h0 : ag.length = 0) :
  Calls Tryz.prog 81 #[leafV f va vb] w fun e w' => ∃ va' vb', e = .returned (leafV (lf0) va' vb') ∧ LeafOk w' (lf0) va' vb' ∧ Kp w w' ∧ ((lf0 : LF).sp = true → OwnR w' w.heap.size va' (lf0 : LF).a ∧ OwnR w' w.heap.size vb' (lf0 : LF).b) ∧ ((lf0 : LF).sp = false → LeafOk w0 (lf0) va' vb') := by
 have h := hL0.kp k0
 have C := Hd (fun w1 (kk : Kp w w1) => refAsV_any f va vb w0 w1 hL0 (k0.trans kk))
 rw [hf] at C
 clear hf
 obtain ⟨sp, u, a, b⟩ := f
 obtain ⟨ad, ca, rfl⟩ := h.a.slice
 obtain ⟨bd, cb, rfl⟩ := h.b.slice
 simp only [leafV] at C ⊢
 have K0 := Hd ((Kp.alloc w (.cells #[.bool sp, .int .i64 u, .slice ad a.length ca, .slice bd b.length cb] 44)).trans (Kp.alloc _ (.cells #[.bool false, .int .i64 0, .slice none 0 0, .slice none 0 0] 44)))
 clear h hL0 k0
 have q0 : ((ag.length : Int) == 0) = true := by rw [h0]; rfl
 clear h0
 go_enter Tryz.func81, Tryz.ntmps81
 go_wp2_with fail
 refine (C.out _ K0.out).mono ?_
 rintro e w1 ⟨ga, gb, rfl, okg, kk, ok0⟩
 have OK0 := Hd ok0
 clear ok0
 have hB := (kk.block (w.heap.size + 1) (by simp)).trans (heap_at (w.alloc _) (.cells #[.bool false, .int .i64 0, .slice none 0 0, .slice none 0 0] 44 (0, 0)) (w.heap.size + 1) (by simp))
 have s1 := kk.size
 simp at s1
 have K1 := Hd (K0.out.trans kk)
 clear kk C
 obtain ⟨adg, cag, rfl⟩ := okg.a.slice
 obtain ⟨bdg, cbg, rfl⟩ := okg.b.slice
 have na := okg.na
 have nb := okg.nb
 simp only at na nb
 obtain ⟨V, hV⟩ : ∃ x, x = w1.alloc (.cells #[.bool spg, .int .i64 ug, .slice adg ag.length cag, .slice bdg bg.length cbg] 44) := ⟨_, rfl⟩
 have ka : Kp w1 V := by rw [hV]; exact Kp.alloc _ _
 have hgq : V.heap[w1.heap.size]? = some (.cells #[.bool spg, .int .i64 ug, .slice adg ag.length cag, .slice bdg bg.length cbg] 44 (0, 0)) := by rw [hV]; exact heap_at _ _ _ rfl
 have g0 : V.cell? ⟨w1.heap.size, 0, none⟩ = some (.bool spg) := by simp [World.cell?, hgq]
 have g1 : V.cell? ⟨w1.heap.size, 1, none⟩ = some (.int .i64 ug) := by simp [World.cell?, hgq]
 have g2 : V.cell? ⟨w1.heap.size, 2, none⟩ = some (.slice adg ag.length cag) := by simp [World.cell?, hgq]
 have g3 : V.cell? ⟨w1.heap.size, 3, none⟩ = some (.slice bdg bg.length cbg) := by simp [World.cell?, hgq]
 have HB := Hd (fun w' (k : Kp V w') => show w'.cell? ⟨w1.heap.size, 0, none⟩ = some (.bool spg) ∧ w'.cell? ⟨w1.heap.size, 1, none⟩ = some (.int .i64 ug) ∧ w'.cell? ⟨w1.heap.size, 2, none⟩ = some (.slice adg ag.length cag) ∧ w'.cell? ⟨w1.heap.size, 3, none⟩ = some (.slice bdg bg.length cbg) ∧ Kp V w' from ⟨cell_up k g0, cell_up k g1, cell_up k g2, cell_up k g3, k⟩)
 have hBV := heap_block ka hB
 have KV := Hd (K1.out.trans ka)
 have HV := Hd hV
 have OKV := Hd (okg.kp ka)
 clear hV ka hgq g0 g1 g2 g3  hB okg
 go_wp2_with fail
 rw [← HV.out]
 refine wp_region_held_drew (S := fun w' => w'.cell? ⟨w1.heap.size, 0, none⟩ = some (.bool spg) ∧ w'.cell? ⟨w1.heap.size, 1, none⟩ = some (.int .i64 ug) ∧ w'.cell? ⟨w1.heap.size, 2, none⟩ = some (.slice adg ag.length cag) ∧ w'.cell? ⟨w1.heap.size, 3, none⟩ = some (.slice bdg bg.length cbg) ∧ Kp V w') (by kernel_rfl) ?_ (fun hHeld0 => ?_)
 ·(try dsimp only); exact HB.out _ kw
 refine tkv 0 uA0 ?_
 (try simp only [Act.put, uA0, xA, xB, xC])
 refine tkv 1 uA1 ?_
 (try simp only [Act.put, uA1, xA, xB, xC])
 refine tkv 2 uA2 ?_
 (try simp only [Act.put, uA2, xA, xB, xC])
 refine tkv 3 uA3 ?_
 (try simp only [Act.put, uA3, xA, xB, xC])
 refine tkv 4 uA4 ?_
 (try simp only [Act.put, uA4, xA, xB, xC])
 refine tkn 5 uA5 ?_
 (try simp only [Act.put, uA5, xA, xB, xC])
 refine tkn 6 uA6 ?_
 (try simp only [Act.put, uA6, xA, xB, xC])
 refine tkn 7 uA7 ?_
 (try simp only [Act.put, uA7, xA, xB, xC])
 refine tkn 8 uA8 ?_
 (try simp only [Act.put, uA8, xA, xB, xC])
 refine tkn 9 uA9 ?_
 (try simp only [Act.put, uA9, xA, xB, xC])
 refine tkn 10 uA10 ?_
 (try simp only [Act.put, uA10, xA, xB, xC])
 refine tkn 11 uA11 ?_
 (try simp only [Act.put, uA11, xA, xB, xC])
 refine tkn 12 uA12 ?_
 (try simp only [Act.put, uA12, xA, xB, xC])
 refine tkn 13 uA13 ?_
 (try simp only [Act.put, uA13, xA, xB, xC])
 refine tkn 14 uA14 ?_
 (try simp only [Act.put, uA14, xA, xB, xC])
 refine tkn 15 uA15 ?_
 (try simp only [Act.put, uA15, xA, xB, xC])
 refine tkn 16 uA16 ?_
 (try simp only [Act.put, uA16, xA, xB, xC])
 refine tkn 17 uA17 ?_
 (try simp only [Act.put, uA17, xA, xB, xC])
 refine tkn 18 uA18 ?_
 (try simp only [Act.put, uA18, xA, xB, xC])
 refine tkn 19 uA19 ?_
 (try simp only [Act.put, uA19, xA, xB, xC])
 refine tkn 20 uA20 ?_
 (try simp only [Act.put, uA20, xA, xB, xC])
 refine tkn 21 uA21 ?_
 (try simp only [Act.put, uA21, xA, xB, xC])
 refine tkn 22 uA22 ?_
 (try simp only [Act.put, uA22, xA, xB, xC])
 refine tkn 23 uA23 ?_
 (try simp only [Act.put, uA23, xA, xB, xC])
 refine tkn 24 uA24 ?_
 (try simp only [Act.put, uA24, xA, xB, xC])
 refine tkn 25 uA25 ?_
 (try simp only [Act.put, uA25, xA, xB, xC])
 refine tkn 26 uA26 ?_
 (try simp only [Act.put, uA26, xA, xB, xC])
 refine tkn 27 uA27 ?_
 (try simp only [Act.put, uA27, xA, xB, xC])
 refine tkn 28 uA28 ?_
 (try simp only [Act.put, uA28, xA, xB, xC])
 refine tkn 29 uA29 ?_
 (try simp only [Act.put, uA29, xA, xB, xC])
 refine tkv 30 uA30 ?_
 (try simp only [Act.put, uA30, xA, xB, xC])
 refine wpAnyH_done (by kernel_rfl) ?_ _
 obtain ⟨X, hX⟩ : ∃ x, x = V.drew := ⟨_, rfl⟩
 have hBX : X.heap[w.heap.size + 1]? = some (.cells #[.bool false, .int .i64 0, .slice none 0 0, .slice none 0 0] 44 (0, 0)) := by rw [hX]; exact hBV
 have kx : Kp V X := by rw [hX]; exact Kp.drew _
 have KX := Hd kx
 have KWX := Hd (KV.out.trans kx)
 rw [← hX]
 clear hX hBV kx
 obtain ⟨c0, c1, c2, c3, _⟩ := HB.out X KX.out
 have r0 : X.cell? ⟨w.heap.size + 1, 0, none⟩ = some (.bool false) := by simp [World.cell?, hBX]
 have f0 : X.frozen? ⟨w.heap.size + 1, 0, none⟩ = false := by simp [World.frozen?, hBX]
 have r1 : X.cell? ⟨w.heap.size + 1, 1, none⟩ = some (.int .i64 0) := by simp [World.cell?, hBX]
 have f1 : X.frozen? ⟨w.heap.size + 1, 1, none⟩ = false := by simp [World.frozen?, hBX]
 have r2 : X.cell? ⟨w.heap.size + 1, 2, none⟩ = some (.slice none 0 0) := by simp [World.cell?, hBX]
 have f2 : X.frozen? ⟨w.heap.size + 1, 2, none⟩ = false := by simp [World.frozen?, hBX]
 have r3 : X.cell? ⟨w.heap.size + 1, 3, none⟩ = some (.slice none 0 0) := by simp [World.cell?, hBX]
 have f3 : X.frozen? ⟨w.heap.size + 1, 3, none⟩ = false := by simp [World.frozen?, hBX]
 have sx := KWX.out.size
 go_wp2
 have RD0 := set4_read hBX (.bool false) (.int .i64 0) (.slice none 0 0) (.slice none 0 0) (Kp.refl _)
 exact bodyPost_ret (v := .agg #[.bool false, .int .i64 0, .slice none 0 0, .slice none 0 0]) (by simp [results, Tryz.f81, go_sem, RD0]) rfl ⟨.slice none 0 0, .slice none 0 0, rfl, lf0_ok _, set4_below KWX.out (w.heap.size + 1) (by omega) _ _ _ _, ⟨fun h => (by cases h), fun _ => lf0_ok _⟩⟩
theorem refTidyV_2 (spg : Bool) (ug : Int) (ag bg : List R) (iag : I64R ag) (ibg : I64R bg) (f : LF) (va vb : Value) (w0 w : World) (hL0 : LeafOk w0 f va vb) (k0 : Kp w0 w) (hf : asL f = ⟨spg, ug, ag, bg⟩) (h0 : ag.length ≠ 0) (hs : spg = false) :
  Calls Tryz.prog 81 #[leafV f va vb] w fun e w' => ∃ va' vb', e = .returned (leafV (⟨false, ug, ag, bg⟩) va' vb') ∧ LeafOk w' (⟨false, ug, ag, bg⟩) va' vb' ∧ Kp w w' ∧ ((⟨false, ug, ag, bg⟩ : LF).sp = true → OwnR w' w.heap.size va' (⟨false, ug, ag, bg⟩ : LF).a ∧ OwnR w' w.heap.size vb' (⟨false, ug, ag, bg⟩ : LF).b) ∧ ((⟨false, ug, ag, bg⟩ : LF).sp = false → LeafOk w0 (⟨false, ug, ag, bg⟩) va' vb') := by
 have h := hL0.kp k0
 have C := Hd (fun w1 (kk : Kp w w1) => refAsV_any f va vb w0 w1 hL0 (k0.trans kk))
 rw [hf] at C
 clear hf
 obtain ⟨sp, u, a, b⟩ := f
 obtain ⟨ad, ca, rfl⟩ := h.a.slice
 obtain ⟨bd, cb, rfl⟩ := h.b.slice
 simp only [leafV] at C ⊢
 have K0 := Hd ((Kp.alloc w (.cells #[.bool sp, .int .i64 u, .slice ad a.length ca, .slice bd b.length cb] 44)).trans (Kp.alloc _ (.cells #[.bool false, .int .i64 0, .slice none 0 0, .slice none 0 0] 44)))
 clear h hL0 k0
 subst hs
 have q0 : ((ag.length : Int) == 0) = false := beq_eq_false_iff_ne.2 (by omega)
 go_enter Tryz.func81, Tryz.ntmps81
 go_wp2_with fail
 refine (C.out _ K0.out).mono ?_
 rintro e w1 ⟨ga, gb, rfl, okg, kk, ok0⟩
 have OK0 := Hd ok0
 clear ok0
 have hB := (kk.block (w.heap.size + 1) (by simp)).trans (heap_at (w.alloc _) (.cells #[.bool false, .int .i64 0, .slice none 0 0, .slice none 0 0] 44 (0, 0)) (w.heap.size + 1) (by simp))
 have s1 := kk.size
 simp at s1
 have K1 := Hd (K0.out.trans kk)
 clear kk C
 obtain ⟨ba, oa, cag, ev, x0, x1⟩ := ends_at okg.a (by simp only; omega)
 subst ev
 obtain ⟨bdg, cbg, rfl⟩ := okg.b.slice
 have na := okg.na
 have nb := okg.nb
 simp only at na nb x0 x1
 obtain ⟨V, hV⟩ : ∃ x, x = w1.alloc (.cells #[.bool false, .int .i64 ug, .slice (some ⟨ba, oa, none⟩) ag.length cag, .slice bdg bg.length cbg] 44) := ⟨_, rfl⟩
 have ka : Kp w1 V := by rw [hV]; exact Kp.alloc _ _
 have hgq : V.heap[w1.heap.size]? = some (.cells #[.bool false, .int .i64 ug, .slice (some ⟨ba, oa, none⟩) ag.length cag, .slice bdg bg.length cbg] 44 (0, 0)) := by rw [hV]; exact heap_at _ _ _ rfl
 have g0 : V.cell? ⟨w1.heap.size, 0, none⟩ = some (.bool false) := by simp [World.cell?, hgq]
 have g1 : V.cell? ⟨w1.heap.size, 1, none⟩ = some (.int .i64 ug) := by simp [World.cell?, hgq]
 have g2 : V.cell? ⟨w1.heap.size, 2, none⟩ = some (.slice (some ⟨ba, oa, none⟩) ag.length cag) := by simp [World.cell?, hgq]
 have g3 : V.cell? ⟨w1.heap.size, 3, none⟩ = some (.slice bdg bg.length cbg) := by simp [World.cell?, hgq]
 have HB := Hd (fun w' (k : Kp V w') => show w'.cell? ⟨w1.heap.size, 0, none⟩ = some (.bool false) ∧ w'.cell? ⟨w1.heap.size, 1, none⟩ = some (.int .i64 ug) ∧ w'.cell? ⟨w1.heap.size, 2, none⟩ = some (.slice (some ⟨ba, oa, none⟩) ag.length cag) ∧ w'.cell? ⟨w1.heap.size, 3, none⟩ = some (.slice bdg bg.length cbg) ∧ w'.cell? ⟨ba, oa, none⟩ = some (.int .i64 (leastR ag)) ∧ w'.cell? ⟨ba, oa + (ag.length - 1) * 2 + 1, none⟩ = some (.int .i64 (greatR ag)) ∧ Kp V w' from ⟨cell_up k g0, cell_up k g1, cell_up k g2, cell_up k g3, cell_up (ka.trans k) x0, cell_up (ka.trans k) x1, k⟩)
 have hBV := heap_block ka hB
 have KV := Hd (K1.out.trans ka)
 have HV := Hd hV
 have OKV := Hd (okg.kp ka)
 have wz : 0 < ag.length := by omega
 clear hV ka hgq g0 g1 g2 g3 x0 x1 hB okg
 go_wp2_with fail
 rw [← HV.out]
 refine wp_region_held_drew (S := fun w' => w'.cell? ⟨w1.heap.size, 0, none⟩ = some (.bool false) ∧ w'.cell? ⟨w1.heap.size, 1, none⟩ = some (.int .i64 ug) ∧ w'.cell? ⟨w1.heap.size, 2, none⟩ = some (.slice (some ⟨ba, oa, none⟩) ag.length cag) ∧ w'.cell? ⟨w1.heap.size, 3, none⟩ = some (.slice bdg bg.length cbg) ∧ w'.cell? ⟨ba, oa, none⟩ = some (.int .i64 (leastR ag)) ∧ w'.cell? ⟨ba, oa + (ag.length - 1) * 2 + 1, none⟩ = some (.int .i64 (greatR ag)) ∧ Kp V w') (by kernel_rfl) ?_ (fun hHeld0 => ?_)
 ·(try dsimp only); exact HB.out _ kw
 refine tkv 0 uA0 ?_
 (try simp only [Act.put, uA0, xA, xB, xC])
 refine tkv 1 uA1 ?_
 (try simp only [Act.put, uA1, xA, xB, xC])
 refine tkv 2 uA2 ?_
 (try simp only [Act.put, uA2, xA, xB, xC])
 refine tkv 3 uA3 ?_
 (try simp only [Act.put, uA3, xA, xB, xC])
 refine tkv 4 uA4 ?_
 (try simp only [Act.put, uA4, xA, xB, xC])
 refine tkv 5 uA5 ?_
 (try simp only [Act.put, uA5, xA, xB, xC])
 refine tkv 6 uA6 ?_
 (try simp only [Act.put, uA6, xA, xB, xC])
 refine tkv 7 uA7 ?_
 (try simp only [Act.put, uA7, xA, xB, xC])
 refine tkn 8 uA8 ?_
 (try simp only [Act.put, uA8, xA, xB, xC])
 refine tkn 9 uA9 ?_
 (try simp only [Act.put, uA9, xA, xB, xC])
 refine tkn 10 uA10 ?_
 (try simp only [Act.put, uA10, xA, xB, xC])
 refine tkn 11 uA11 ?_
 (try simp only [Act.put, uA11, xA, xB, xC])
 refine tkn 12 uA12 ?_
 (try simp only [Act.put, uA12, xA, xB, xC])
 refine tkn 13 uA13 ?_
 (try simp only [Act.put, uA13, xA, xB, xC])
 refine tkn 14 uA14 ?_
 (try simp only [Act.put, uA14, xA, xB, xC])
 refine tkn 15 uA15 ?_
 (try simp only [Act.put, uA15, xA, xB, xC])
 refine tkn 16 uA16 ?_
 (try simp only [Act.put, uA16, xA, xB, xC])
 refine tkn 17 uA17 ?_
 (try simp only [Act.put, uA17, xA, xB, xC])
 refine tkn 18 uA18 ?_
 (try simp only [Act.put, uA18, xA, xB, xC])
 refine tkn 19 uA19 ?_
 (try simp only [Act.put, uA19, xA, xB, xC])
 refine tkn 20 uA20 ?_
 (try simp only [Act.put, uA20, xA, xB, xC])
 refine tkn 21 uA21 ?_
 (try simp only [Act.put, uA21, xA, xB, xC])
 refine tkn 22 uA22 ?_
 (try simp only [Act.put, uA22, xA, xB, xC])
 refine tkn 23 uA23 ?_
 (try simp only [Act.put, uA23, xA, xB, xC])
 refine tkn 24 uA24 ?_
 (try simp only [Act.put, uA24, xA, xB, xC])
 refine tkn 25 uA25 ?_
 (try simp only [Act.put, uA25, xA, xB, xC])
 refine tkn 26 uA26 ?_
 (try simp only [Act.put, uA26, xA, xB, xC])
 refine tkn 27 uA27 ?_
 (try simp only [Act.put, uA27, xA, xB, xC])
 refine tkn 28 uA28 ?_
 (try simp only [Act.put, uA28, xA, xB, xC])
 refine tkv 29 uA29 ?_
 (try simp only [Act.put, uA29, xA, xB, xC])
 refine tkv 30 uA30 ?_
 (try simp only [Act.put, uA30, xA, xB, xC])
 refine wpAnyH_done (by kernel_rfl) ?_ _
 obtain ⟨X, hX⟩ : ∃ x, x = V.drew := ⟨_, rfl⟩
 have hBX : X.heap[w.heap.size + 1]? = some (.cells #[.bool false, .int .i64 0, .slice none 0 0, .slice none 0 0] 44 (0, 0)) := by rw [hX]; exact hBV
 have kx : Kp V X := by rw [hX]; exact Kp.drew _
 have KX := Hd kx
 have KWX := Hd (KV.out.trans kx)
 rw [← hX]
 clear hX hBV kx
 obtain ⟨c0, c1, c2, c3, c4, c5, _⟩ := HB.out X KX.out
 have r0 : X.cell? ⟨w.heap.size + 1, 0, none⟩ = some (.bool false) := by simp [World.cell?, hBX]
 have f0 : X.frozen? ⟨w.heap.size + 1, 0, none⟩ = false := by simp [World.frozen?, hBX]
 have r1 : X.cell? ⟨w.heap.size + 1, 1, none⟩ = some (.int .i64 0) := by simp [World.cell?, hBX]
 have f1 : X.frozen? ⟨w.heap.size + 1, 1, none⟩ = false := by simp [World.frozen?, hBX]
 have r2 : X.cell? ⟨w.heap.size + 1, 2, none⟩ = some (.slice none 0 0) := by simp [World.cell?, hBX]
 have f2 : X.frozen? ⟨w.heap.size + 1, 2, none⟩ = false := by simp [World.frozen?, hBX]
 have r3 : X.cell? ⟨w.heap.size + 1, 3, none⟩ = some (.slice none 0 0) := by simp [World.cell?, hBX]
 have f3 : X.frozen? ⟨w.heap.size + 1, 3, none⟩ = false := by simp [World.frozen?, hBX]
 have sx := KWX.out.size
 go_wp2
 have RD0 := set4_read hBX (.bool false) (.int .i64 ug) (.slice (some ⟨ba, oa, none⟩) ag.length cag) (.slice bdg bg.length cbg) (Kp.refl _)
 exact bodyPost_ret (v := .agg #[.bool false, .int .i64 ug, .slice (some ⟨ba, oa, none⟩) ag.length cag, .slice bdg bg.length cbg]) (by simp [results, Tryz.f81, go_sem, RD0]) rfl ⟨_, _, rfl, (OKV.out.kp KX.out).kp4 hBX, set4_below KWX.out (w.heap.size + 1) (by omega) _ _ _ _, ⟨fun h => (by cases h), fun _ => OK0.out⟩⟩
theorem refTidyV_3 (spg : Bool) (ug : Int) (ag bg : List R) (iag : I64R ag) (ibg : I64R bg) (f : LF) (va vb : Value) (w0 w : World) (hL0 : LeafOk w0 f va vb) (k0 : Kp w0 w) (hf : asL f = ⟨spg, ug, ag, bg⟩) (h0 : ag.length ≠ 0) (hs : spg = true) (h1 : bg.length = 0) :
  Calls Tryz.prog 81 #[leafV f va vb] w fun e w' => ∃ va' vb', e = .returned (leafV (lf0) va' vb') ∧ LeafOk w' (lf0) va' vb' ∧ Kp w w' ∧ ((lf0 : LF).sp = true → OwnR w' w.heap.size va' (lf0 : LF).a ∧ OwnR w' w.heap.size vb' (lf0 : LF).b) ∧ ((lf0 : LF).sp = false → LeafOk w0 (lf0) va' vb') := by
 have h := hL0.kp k0
 have C := Hd (fun w1 (kk : Kp w w1) => refAsV_any f va vb w0 w1 hL0 (k0.trans kk))
 rw [hf] at C
 clear hf
 obtain ⟨sp, u, a, b⟩ := f
 obtain ⟨ad, ca, rfl⟩ := h.a.slice
 obtain ⟨bd, cb, rfl⟩ := h.b.slice
 simp only [leafV] at C ⊢
 have K0 := Hd ((Kp.alloc w (.cells #[.bool sp, .int .i64 u, .slice ad a.length ca, .slice bd b.length cb] 44)).trans (Kp.alloc _ (.cells #[.bool false, .int .i64 0, .slice none 0 0, .slice none 0 0] 44)))
 clear h hL0 k0
 subst hs
 have q1 : ((bg.length : Int) == 0) = true := by rw [h1]; rfl
 clear h1
 have q0 : ((ag.length : Int) == 0) = false := beq_eq_false_iff_ne.2 (by omega)
 go_enter Tryz.func81, Tryz.ntmps81
 go_wp2_with fail
 refine (C.out _ K0.out).mono ?_
 rintro e w1 ⟨ga, gb, rfl, okg, kk, ok0⟩
 have OK0 := Hd ok0
 clear ok0
 have hB := (kk.block (w.heap.size + 1) (by simp)).trans (heap_at (w.alloc _) (.cells #[.bool false, .int .i64 0, .slice none 0 0, .slice none 0 0] 44 (0, 0)) (w.heap.size + 1) (by simp))
 have s1 := kk.size
 simp at s1
 have K1 := Hd (K0.out.trans kk)
 clear kk C
 obtain ⟨ba, oa, cag, ev, x0, x1⟩ := ends_at okg.a (by simp only; omega)
 subst ev
 obtain ⟨bdg, cbg, rfl⟩ := okg.b.slice
 have na := okg.na
 have nb := okg.nb
 simp only at na nb x0 x1
 obtain ⟨V, hV⟩ : ∃ x, x = w1.alloc (.cells #[.bool true, .int .i64 ug, .slice (some ⟨ba, oa, none⟩) ag.length cag, .slice bdg bg.length cbg] 44) := ⟨_, rfl⟩
 have ka : Kp w1 V := by rw [hV]; exact Kp.alloc _ _
 have hgq : V.heap[w1.heap.size]? = some (.cells #[.bool true, .int .i64 ug, .slice (some ⟨ba, oa, none⟩) ag.length cag, .slice bdg bg.length cbg] 44 (0, 0)) := by rw [hV]; exact heap_at _ _ _ rfl
 have g0 : V.cell? ⟨w1.heap.size, 0, none⟩ = some (.bool true) := by simp [World.cell?, hgq]
 have g1 : V.cell? ⟨w1.heap.size, 1, none⟩ = some (.int .i64 ug) := by simp [World.cell?, hgq]
 have g2 : V.cell? ⟨w1.heap.size, 2, none⟩ = some (.slice (some ⟨ba, oa, none⟩) ag.length cag) := by simp [World.cell?, hgq]
 have g3 : V.cell? ⟨w1.heap.size, 3, none⟩ = some (.slice bdg bg.length cbg) := by simp [World.cell?, hgq]
 have HB := Hd (fun w' (k : Kp V w') => show w'.cell? ⟨w1.heap.size, 0, none⟩ = some (.bool true) ∧ w'.cell? ⟨w1.heap.size, 1, none⟩ = some (.int .i64 ug) ∧ w'.cell? ⟨w1.heap.size, 2, none⟩ = some (.slice (some ⟨ba, oa, none⟩) ag.length cag) ∧ w'.cell? ⟨w1.heap.size, 3, none⟩ = some (.slice bdg bg.length cbg) ∧ w'.cell? ⟨ba, oa, none⟩ = some (.int .i64 (leastR ag)) ∧ w'.cell? ⟨ba, oa + (ag.length - 1) * 2 + 1, none⟩ = some (.int .i64 (greatR ag)) ∧ Kp V w' from ⟨cell_up k g0, cell_up k g1, cell_up k g2, cell_up k g3, cell_up (ka.trans k) x0, cell_up (ka.trans k) x1, k⟩)
 have hBV := heap_block ka hB
 have KV := Hd (K1.out.trans ka)
 have HV := Hd hV
 have OKV := Hd (okg.kp ka)
 have wz : 0 < ag.length := by omega
 clear hV ka hgq g0 g1 g2 g3 x0 x1 hB okg
 go_wp2_with fail
 rw [← HV.out]
 refine wp_region_held_drew (S := fun w' => w'.cell? ⟨w1.heap.size, 0, none⟩ = some (.bool true) ∧ w'.cell? ⟨w1.heap.size, 1, none⟩ = some (.int .i64 ug) ∧ w'.cell? ⟨w1.heap.size, 2, none⟩ = some (.slice (some ⟨ba, oa, none⟩) ag.length cag) ∧ w'.cell? ⟨w1.heap.size, 3, none⟩ = some (.slice bdg bg.length cbg) ∧ w'.cell? ⟨ba, oa, none⟩ = some (.int .i64 (leastR ag)) ∧ w'.cell? ⟨ba, oa + (ag.length - 1) * 2 + 1, none⟩ = some (.int .i64 (greatR ag)) ∧ Kp V w') (by kernel_rfl) ?_ (fun hHeld0 => ?_)
 ·(try dsimp only); exact HB.out _ kw
 refine tkv 0 uA0 ?_
 (try simp only [Act.put, uA0, xA, xB, xC])
 refine tkv 1 uA1 ?_
 (try simp only [Act.put, uA1, xA, xB, xC])
 refine tkv 2 uA2 ?_
 (try simp only [Act.put, uA2, xA, xB, xC])
 refine tkv 3 uA3 ?_
 (try simp only [Act.put, uA3, xA, xB, xC])
 refine tkv 4 uA4 ?_
 (try simp only [Act.put, uA4, xA, xB, xC])
 refine tkv 5 uA5 ?_
 (try simp only [Act.put, uA5, xA, xB, xC])
 refine tkv 6 uA6 ?_
 (try simp only [Act.put, uA6, xA, xB, xC])
 refine tkv 7 uA7 ?_
 (try simp only [Act.put, uA7, xA, xB, xC])
 refine tkv 8 uA8 ?_
 (try simp only [Act.put, uA8, xA, xB, xC])
 refine tkv 9 uA9 ?_
 (try simp only [Act.put, uA9, xA, xB, xC])
 refine tkv 10 uA10 ?_
 (try simp only [Act.put, uA10, xA, xB, xC])
 refine tkv 11 uA11 ?_
 (try simp only [Act.put, uA11, xA, xB, xC])
 refine tkv 12 uA12 ?_
 (try simp only [Act.put, uA12, xA, xB, xC])
 refine tkn 13 uA13 ?_
 (try simp only [Act.put, uA13, xA, xB, xC])
 refine tkn 14 uA14 ?_
 (try simp only [Act.put, uA14, xA, xB, xC])
 refine tkn 15 uA15 ?_
 (try simp only [Act.put, uA15, xA, xB, xC])
 refine tkn 16 uA16 ?_
 (try simp only [Act.put, uA16, xA, xB, xC])
 refine tkn 17 uA17 ?_
 (try simp only [Act.put, uA17, xA, xB, xC])
 refine tkn 18 uA18 ?_
 (try simp only [Act.put, uA18, xA, xB, xC])
 refine tkn 19 uA19 ?_
 (try simp only [Act.put, uA19, xA, xB, xC])
 refine tkn 20 uA20 ?_
 (try simp only [Act.put, uA20, xA, xB, xC])
 refine tkn 21 uA21 ?_
 (try simp only [Act.put, uA21, xA, xB, xC])
 refine tkn 22 uA22 ?_
 (try simp only [Act.put, uA22, xA, xB, xC])
 refine tkn 23 uA23 ?_
 (try simp only [Act.put, uA23, xA, xB, xC])
 refine tkn 24 uA24 ?_
 (try simp only [Act.put, uA24, xA, xB, xC])
 refine tkn 25 uA25 ?_
 (try simp only [Act.put, uA25, xA, xB, xC])
 refine tkn 26 uA26 ?_
 (try simp only [Act.put, uA26, xA, xB, xC])
 refine tkn 27 uA27 ?_
 (try simp only [Act.put, uA27, xA, xB, xC])
 refine tkv 28 uA28 ?_
 (try simp only [Act.put, uA28, xA, xB, xC])
 refine tkv 29 uA29 ?_
 (try simp only [Act.put, uA29, xA, xB, xC])
 refine tkv 30 uA30 ?_
 (try simp only [Act.put, uA30, xA, xB, xC])
 refine wpAnyH_done (by kernel_rfl) ?_ _
 obtain ⟨X, hX⟩ : ∃ x, x = V.drew := ⟨_, rfl⟩
 have hBX : X.heap[w.heap.size + 1]? = some (.cells #[.bool false, .int .i64 0, .slice none 0 0, .slice none 0 0] 44 (0, 0)) := by rw [hX]; exact hBV
 have kx : Kp V X := by rw [hX]; exact Kp.drew _
 have KX := Hd kx
 have KWX := Hd (KV.out.trans kx)
 rw [← hX]
 clear hX hBV kx
 obtain ⟨c0, c1, c2, c3, c4, c5, _⟩ := HB.out X KX.out
 have r0 : X.cell? ⟨w.heap.size + 1, 0, none⟩ = some (.bool false) := by simp [World.cell?, hBX]
 have f0 : X.frozen? ⟨w.heap.size + 1, 0, none⟩ = false := by simp [World.frozen?, hBX]
 have r1 : X.cell? ⟨w.heap.size + 1, 1, none⟩ = some (.int .i64 0) := by simp [World.cell?, hBX]
 have f1 : X.frozen? ⟨w.heap.size + 1, 1, none⟩ = false := by simp [World.frozen?, hBX]
 have r2 : X.cell? ⟨w.heap.size + 1, 2, none⟩ = some (.slice none 0 0) := by simp [World.cell?, hBX]
 have f2 : X.frozen? ⟨w.heap.size + 1, 2, none⟩ = false := by simp [World.frozen?, hBX]
 have r3 : X.cell? ⟨w.heap.size + 1, 3, none⟩ = some (.slice none 0 0) := by simp [World.cell?, hBX]
 have f3 : X.frozen? ⟨w.heap.size + 1, 3, none⟩ = false := by simp [World.frozen?, hBX]
 have sx := KWX.out.size
 go_wp2
 have RD0 := set4_read hBX (.bool false) (.int .i64 0) (.slice none 0 0) (.slice none 0 0) (Kp.refl _)
 exact bodyPost_ret (v := .agg #[.bool false, .int .i64 0, .slice none 0 0, .slice none 0 0]) (by simp [results, Tryz.f81, go_sem, RD0]) rfl ⟨.slice none 0 0, .slice none 0 0, rfl, lf0_ok _, set4_below KWX.out (w.heap.size + 1) (by omega) _ _ _ _, ⟨fun h => (by cases h), fun _ => lf0_ok _⟩⟩
theorem refTidyV_4 (spg : Bool) (ug : Int) (ag bg : List R) (iag : I64R ag) (ibg : I64R bg) (f : LF) (va vb : Value) (w0 w : World) (hL0 : LeafOk w0 f va vb) (k0 : Kp w0 w) (hf : asL f = ⟨spg, ug, ag, bg⟩) (h0 : ag.length ≠ 0) (hs : spg = true) (h1 : bg.length ≠ 0) (hg : greatR bg < leastR ag) :
  Calls Tryz.prog 81 #[leafV f va vb] w fun e w' => ∃ va' vb', e = .returned (leafV (lf0) va' vb') ∧ LeafOk w' (lf0) va' vb' ∧ Kp w w' ∧ ((lf0 : LF).sp = true → OwnR w' w.heap.size va' (lf0 : LF).a ∧ OwnR w' w.heap.size vb' (lf0 : LF).b) ∧ ((lf0 : LF).sp = false → LeafOk w0 (lf0) va' vb') := by
 have h := hL0.kp k0
 have C := Hd (fun w1 (kk : Kp w w1) => refAsV_any f va vb w0 w1 hL0 (k0.trans kk))
 rw [hf] at C
 clear hf
 obtain ⟨sp, u, a, b⟩ := f
 obtain ⟨ad, ca, rfl⟩ := h.a.slice
 obtain ⟨bd, cb, rfl⟩ := h.b.slice
 simp only [leafV] at C ⊢
 have K0 := Hd ((Kp.alloc w (.cells #[.bool sp, .int .i64 u, .slice ad a.length ca, .slice bd b.length cb] 44)).trans (Kp.alloc _ (.cells #[.bool false, .int .i64 0, .slice none 0 0, .slice none 0 0] 44)))
 clear h hL0 k0
 subst hs
 have q1 : ((bg.length : Int) == 0) = false := beq_eq_false_iff_ne.2 (by omega)
 have q2 : decide (greatR bg < leastR ag) = true := decide_eq_true hg
 have q0 : ((ag.length : Int) == 0) = false := beq_eq_false_iff_ne.2 (by omega)
 go_enter Tryz.func81, Tryz.ntmps81
 go_wp2_with fail
 refine (C.out _ K0.out).mono ?_
 rintro e w1 ⟨ga, gb, rfl, okg, kk, ok0⟩
 have OK0 := Hd ok0
 clear ok0
 have hB := (kk.block (w.heap.size + 1) (by simp)).trans (heap_at (w.alloc _) (.cells #[.bool false, .int .i64 0, .slice none 0 0, .slice none 0 0] 44 (0, 0)) (w.heap.size + 1) (by simp))
 have s1 := kk.size
 simp at s1
 have K1 := Hd (K0.out.trans kk)
 clear kk C
 obtain ⟨ba, oa, cag, ev, x0, x1⟩ := ends_at okg.a (by simp only; omega)
 subst ev
 obtain ⟨bb, ob, cbg, ev, y0, y1⟩ := ends_at okg.b (by simp only; omega)
 subst ev
 have na := okg.na
 have nb := okg.nb
 simp only at na nb x0 x1 y0 y1
 obtain ⟨V, hV⟩ : ∃ x, x = w1.alloc (.cells #[.bool true, .int .i64 ug, .slice (some ⟨ba, oa, none⟩) ag.length cag, .slice (some ⟨bb, ob, none⟩) bg.length cbg] 44) := ⟨_, rfl⟩
 have ka : Kp w1 V := by rw [hV]; exact Kp.alloc _ _
 have hgq : V.heap[w1.heap.size]? = some (.cells #[.bool true, .int .i64 ug, .slice (some ⟨ba, oa, none⟩) ag.length cag, .slice (some ⟨bb, ob, none⟩) bg.length cbg] 44 (0, 0)) := by rw [hV]; exact heap_at _ _ _ rfl
 have g0 : V.cell? ⟨w1.heap.size, 0, none⟩ = some (.bool true) := by simp [World.cell?, hgq]
 have g1 : V.cell? ⟨w1.heap.size, 1, none⟩ = some (.int .i64 ug) := by simp [World.cell?, hgq]
 have g2 : V.cell? ⟨w1.heap.size, 2, none⟩ = some (.slice (some ⟨ba, oa, none⟩) ag.length cag) := by simp [World.cell?, hgq]
 have g3 : V.cell? ⟨w1.heap.size, 3, none⟩ = some (.slice (some ⟨bb, ob, none⟩) bg.length cbg) := by simp [World.cell?, hgq]
 have HB := Hd (fun w' (k : Kp V w') => show w'.cell? ⟨w1.heap.size, 0, none⟩ = some (.bool true) ∧ w'.cell? ⟨w1.heap.size, 1, none⟩ = some (.int .i64 ug) ∧ w'.cell? ⟨w1.heap.size, 2, none⟩ = some (.slice (some ⟨ba, oa, none⟩) ag.length cag) ∧ w'.cell? ⟨w1.heap.size, 3, none⟩ = some (.slice (some ⟨bb, ob, none⟩) bg.length cbg) ∧ w'.cell? ⟨ba, oa, none⟩ = some (.int .i64 (leastR ag)) ∧ w'.cell? ⟨ba, oa + (ag.length - 1) * 2 + 1, none⟩ = some (.int .i64 (greatR ag)) ∧ w'.cell? ⟨bb, ob, none⟩ = some (.int .i64 (leastR bg)) ∧ w'.cell? ⟨bb, ob + (bg.length - 1) * 2 + 1, none⟩ = some (.int .i64 (greatR bg)) ∧ Kp V w' from ⟨cell_up k g0, cell_up k g1, cell_up k g2, cell_up k g3, cell_up (ka.trans k) x0, cell_up (ka.trans k) x1, cell_up (ka.trans k) y0, cell_up (ka.trans k) y1, k⟩)
 have hBV := heap_block ka hB
 have KV := Hd (K1.out.trans ka)
 have HV := Hd hV
 have OKV := Hd (okg.kp ka)
 have wt : (bg.length : Int) - 1 = ((bg.length - 1 : Nat) : Int) := by omega
 have wu : IntKind.i64.wrap ((bg.length - 1 : Nat) : Int) = ((bg.length - 1 : Nat) : Int) := IntWalk.i64_in _ (by omega)
 have wx : bg.length - 1 < bg.length := by omega
 have wy : ((bg.length - 1 : Nat) : Int) < (bg.length : Int) := by omega
 have wv : (0 : Int) ≤ ((bg.length - 1 : Nat) : Int) := by omega
 have wz : 0 < ag.length := by omega
 clear hV ka hgq g0 g1 g2 g3 x0 x1 y0 y1 hB okg
 go_wp2_with fail
 rw [← HV.out]
 refine wp_region_held_drew (S := fun w' => w'.cell? ⟨w1.heap.size, 0, none⟩ = some (.bool true) ∧ w'.cell? ⟨w1.heap.size, 1, none⟩ = some (.int .i64 ug) ∧ w'.cell? ⟨w1.heap.size, 2, none⟩ = some (.slice (some ⟨ba, oa, none⟩) ag.length cag) ∧ w'.cell? ⟨w1.heap.size, 3, none⟩ = some (.slice (some ⟨bb, ob, none⟩) bg.length cbg) ∧ w'.cell? ⟨ba, oa, none⟩ = some (.int .i64 (leastR ag)) ∧ w'.cell? ⟨ba, oa + (ag.length - 1) * 2 + 1, none⟩ = some (.int .i64 (greatR ag)) ∧ w'.cell? ⟨bb, ob, none⟩ = some (.int .i64 (leastR bg)) ∧ w'.cell? ⟨bb, ob + (bg.length - 1) * 2 + 1, none⟩ = some (.int .i64 (greatR bg)) ∧ Kp V w') (by kernel_rfl) ?_ (fun hHeld0 => ?_)
 ·(try dsimp only); exact HB.out _ kw
 refine tkv 0 uA0 ?_
 (try simp only [Act.put, uA0, xA, xB, xC])
 refine tkv 1 uA1 ?_
 (try simp only [Act.put, uA1, xA, xB, xC])
 refine tkv 2 uA2 ?_
 (try simp only [Act.put, uA2, xA, xB, xC])
 refine tkv 3 uA3 ?_
 (try simp only [Act.put, uA3, xA, xB, xC])
 refine tkv 4 uA4 ?_
 (try simp only [Act.put, uA4, xA, xB, xC])
 refine tkv 5 uA5 ?_
 (try simp only [Act.put, uA5, xA, xB, xC])
 refine tkv 6 uA6 ?_
 (try simp only [Act.put, uA6, xA, xB, xC])
 refine tkv 7 uA7 ?_
 (try simp only [Act.put, uA7, xA, xB, xC])
 refine tkv 8 uA8 ?_
 (try simp only [Act.put, uA8, xA, xB, xC])
 refine tkv 9 uA9 ?_
 (try simp only [Act.put, uA9, xA, xB, xC])
 refine tkv 10 uA10 ?_
 (try simp only [Act.put, uA10, xA, xB, xC])
 refine tkv 11 uA11 ?_
 (try simp only [Act.put, uA11, xA, xB, xC])
 refine tkv 12 uA12 ?_
 (try simp only [Act.put, uA12, xA, xB, xC])
 refine tkv 13 uA13 ?_
 (try simp only [Act.put, uA13, xA, xB, xC])
 refine tkv 14 uA14 ?_
 (try simp only [Act.put, uA14, xA, xB, xC])
 refine tkv 15 uA15 ?_
 (try simp only [Act.put, uA15, xA, xB, xC])
 refine tkv 16 uA16 ?_
 (try simp only [Act.put, uA16, xA, xB, xC])
 refine tkv 17 uA17 ?_
 (try simp only [Act.put, uA17, xA, xB, xC])
 refine tkv 18 uA18 ?_
 (try simp only [Act.put, uA18, xA, xB, xC])
 refine tkv 19 uA19 ?_
 (try simp only [Act.put, uA19, xA, xB, xC])
 refine tkv 20 uA20 ?_
 (try simp only [Act.put, uA20, xA, xB, xC])
 refine tkv 21 uA21 ?_
 (try simp only [Act.put, uA21, xA, xB, xC])
 refine tkv 22 uA22 ?_
 (try simp only [Act.put, uA22, xA, xB, xC])
 refine tkv 23 uA23 ?_
 (try simp only [Act.put, uA23, xA, xB, xC])
 refine tkv 24 uA24 ?_
 (try simp only [Act.put, uA24, xA, xB, xC])
 refine tkv 25 uA25 ?_
 (try simp only [Act.put, uA25, xA, xB, xC])
 refine tkv 26 uA26 ?_
 (try simp only [Act.put, uA26, xA, xB, xC])
 refine tkv 27 uA27 ?_
 (try simp only [Act.put, uA27, xA, xB, xC])
 refine tkv 28 uA28 ?_
 (try simp only [Act.put, uA28, xA, xB, xC])
 refine tkv 29 uA29 ?_
 (try simp only [Act.put, uA29, xA, xB, xC])
 refine tkv 30 uA30 ?_
 (try simp only [Act.put, uA30, xA, xB, xC])
 refine wpAnyH_done (by kernel_rfl) ?_ _
 obtain ⟨X, hX⟩ : ∃ x, x = V.drew := ⟨_, rfl⟩
 have hBX : X.heap[w.heap.size + 1]? = some (.cells #[.bool false, .int .i64 0, .slice none 0 0, .slice none 0 0] 44 (0, 0)) := by rw [hX]; exact hBV
 have kx : Kp V X := by rw [hX]; exact Kp.drew _
 have KX := Hd kx
 have KWX := Hd (KV.out.trans kx)
 rw [← hX]
 clear hX hBV kx
 obtain ⟨c0, c1, c2, c3, c4, c5, c6, c7, _⟩ := HB.out X KX.out
 have r0 : X.cell? ⟨w.heap.size + 1, 0, none⟩ = some (.bool false) := by simp [World.cell?, hBX]
 have f0 : X.frozen? ⟨w.heap.size + 1, 0, none⟩ = false := by simp [World.frozen?, hBX]
 have r1 : X.cell? ⟨w.heap.size + 1, 1, none⟩ = some (.int .i64 0) := by simp [World.cell?, hBX]
 have f1 : X.frozen? ⟨w.heap.size + 1, 1, none⟩ = false := by simp [World.frozen?, hBX]
 have r2 : X.cell? ⟨w.heap.size + 1, 2, none⟩ = some (.slice none 0 0) := by simp [World.cell?, hBX]
 have f2 : X.frozen? ⟨w.heap.size + 1, 2, none⟩ = false := by simp [World.frozen?, hBX]
 have r3 : X.cell? ⟨w.heap.size + 1, 3, none⟩ = some (.slice none 0 0) := by simp [World.cell?, hBX]
 have f3 : X.frozen? ⟨w.heap.size + 1, 3, none⟩ = false := by simp [World.frozen?, hBX]
 have sx := KWX.out.size
 go_wp2
 have RD0 := set4_read hBX (.bool false) (.int .i64 0) (.slice none 0 0) (.slice none 0 0) (Kp.refl _)
 exact bodyPost_ret (v := .agg #[.bool false, .int .i64 0, .slice none 0 0, .slice none 0 0]) (by simp [results, Tryz.f81, go_sem, RD0]) rfl ⟨.slice none 0 0, .slice none 0 0, rfl, lf0_ok _, set4_below KWX.out (w.heap.size + 1) (by omega) _ _ _ _, ⟨fun h => (by cases h), fun _ => lf0_ok _⟩⟩
theorem refTidyV_5 (spg : Bool) (ug : Int) (ag bg : List R) (iag : I64R ag) (ibg : I64R bg) (f : LF) (va vb : Value) (w0 w : World) (hL0 : LeafOk w0 f va vb) (k0 : Kp w0 w) (hf : asL f = ⟨spg, ug, ag, bg⟩) (h0 : ag.length ≠ 0) (hs : spg = true) (h1 : bg.length ≠ 0) (hg : ¬ greatR bg < leastR ag) :
  Calls Tryz.prog 81 #[leafV f va vb] w fun e w' => ∃ va' vb', e = .returned (leafV (⟨true, 0, interR ag [(0, greatR bg)], interR bg [(leastR ag, 3652424)]⟩) va' vb') ∧ LeafOk w' (⟨true, 0, interR ag [(0, greatR bg)], interR bg [(leastR ag, 3652424)]⟩) va' vb' ∧ Kp w w' ∧ ((⟨true, 0, interR ag [(0, greatR bg)], interR bg [(leastR ag, 3652424)]⟩ : LF).sp = true → OwnR w' w.heap.size va' (⟨true, 0, interR ag [(0, greatR bg)], interR bg [(leastR ag, 3652424)]⟩ : LF).a ∧ OwnR w' w.heap.size vb' (⟨true, 0, interR ag [(0, greatR bg)], interR bg [(leastR ag, 3652424)]⟩ : LF).b) ∧ ((⟨true, 0, interR ag [(0, greatR bg)], interR bg [(leastR ag, 3652424)]⟩ : LF).sp = false → LeafOk w0 (⟨true, 0, interR ag [(0, greatR bg)], interR bg [(leastR ag, 3652424)]⟩) va' vb') := by
 have h := hL0.kp k0
 have C := Hd (fun w1 (kk : Kp w w1) => refAsV_any f va vb w0 w1 hL0 (k0.trans kk))
 rw [hf] at C
 clear hf
 obtain ⟨sp, u, a, b⟩ := f
 obtain ⟨ad, ca, rfl⟩ := h.a.slice
 obtain ⟨bd, cb, rfl⟩ := h.b.slice
 simp only [leafV] at C ⊢
 have K0 := Hd ((Kp.alloc w (.cells #[.bool sp, .int .i64 u, .slice ad a.length ca, .slice bd b.length cb] 44)).trans (Kp.alloc _ (.cells #[.bool false, .int .i64 0, .slice none 0 0, .slice none 0 0] 44)))
 clear h hL0 k0
 subst hs
 have q1 : ((bg.length : Int) == 0) = false := beq_eq_false_iff_ne.2 (by omega)
 have q2 : decide (greatR bg < leastR ag) = false := decide_eq_false hg
 have gi := greatR_i64 ibg (by omega)
 have li := leastR_i64 iag (by omega)
 have ii1 := i64_one (lo := 0) (hi' := greatR bg) (by decide) (by decide) gi.1 gi.2
 have ii2 := i64_one (lo := leastR ag) (hi' := 3652424) li.1 li.2 (by decide) (by decide)
 have q0 : ((ag.length : Int) == 0) = false := beq_eq_false_iff_ne.2 (by omega)
 go_enter Tryz.func81, Tryz.ntmps81
 go_wp2_with fail
 refine (C.out _ K0.out).mono ?_
 rintro e w1 ⟨ga, gb, rfl, okg, kk, ok0⟩
 have OK0 := Hd ok0
 clear ok0
 have hB := (kk.block (w.heap.size + 1) (by simp)).trans (heap_at (w.alloc _) (.cells #[.bool false, .int .i64 0, .slice none 0 0, .slice none 0 0] 44 (0, 0)) (w.heap.size + 1) (by simp))
 have s1 := kk.size
 simp at s1
 have K1 := Hd (K0.out.trans kk)
 clear kk C
 obtain ⟨ba, oa, cag, ev, x0, x1⟩ := ends_at okg.a (by simp only; omega)
 subst ev
 obtain ⟨bb, ob, cbg, ev, y0, y1⟩ := ends_at okg.b (by simp only; omega)
 subst ev
 have na := okg.na
 have nb := okg.nb
 simp only at na nb x0 x1 y0 y1
 obtain ⟨V, hV⟩ : ∃ x, x = w1.alloc (.cells #[.bool true, .int .i64 ug, .slice (some ⟨ba, oa, none⟩) ag.length cag, .slice (some ⟨bb, ob, none⟩) bg.length cbg] 44) := ⟨_, rfl⟩
 have ka : Kp w1 V := by rw [hV]; exact Kp.alloc _ _
 have hgq : V.heap[w1.heap.size]? = some (.cells #[.bool true, .int .i64 ug, .slice (some ⟨ba, oa, none⟩) ag.length cag, .slice (some ⟨bb, ob, none⟩) bg.length cbg] 44 (0, 0)) := by rw [hV]; exact heap_at _ _ _ rfl
 have g0 : V.cell? ⟨w1.heap.size, 0, none⟩ = some (.bool true) := by simp [World.cell?, hgq]
 have g1 : V.cell? ⟨w1.heap.size, 1, none⟩ = some (.int .i64 ug) := by simp [World.cell?, hgq]
 have g2 : V.cell? ⟨w1.heap.size, 2, none⟩ = some (.slice (some ⟨ba, oa, none⟩) ag.length cag) := by simp [World.cell?, hgq]
 have g3 : V.cell? ⟨w1.heap.size, 3, none⟩ = some (.slice (some ⟨bb, ob, none⟩) bg.length cbg) := by simp [World.cell?, hgq]
 have HB := Hd (fun w' (k : Kp V w') => show w'.cell? ⟨w1.heap.size, 0, none⟩ = some (.bool true) ∧ w'.cell? ⟨w1.heap.size, 1, none⟩ = some (.int .i64 ug) ∧ w'.cell? ⟨w1.heap.size, 2, none⟩ = some (.slice (some ⟨ba, oa, none⟩) ag.length cag) ∧ w'.cell? ⟨w1.heap.size, 3, none⟩ = some (.slice (some ⟨bb, ob, none⟩) bg.length cbg) ∧ w'.cell? ⟨ba, oa, none⟩ = some (.int .i64 (leastR ag)) ∧ w'.cell? ⟨ba, oa + (ag.length - 1) * 2 + 1, none⟩ = some (.int .i64 (greatR ag)) ∧ w'.cell? ⟨bb, ob, none⟩ = some (.int .i64 (leastR bg)) ∧ w'.cell? ⟨bb, ob + (bg.length - 1) * 2 + 1, none⟩ = some (.int .i64 (greatR bg)) ∧ Kp V w' from ⟨cell_up k g0, cell_up k g1, cell_up k g2, cell_up k g3, cell_up (ka.trans k) x0, cell_up (ka.trans k) x1, cell_up (ka.trans k) y0, cell_up (ka.trans k) y1, k⟩)
 have hBV := heap_block ka hB
 have KV := Hd (K1.out.trans ka)
 have HV := Hd hV
 have OKV := Hd (okg.kp ka)
 have wt : (bg.length : Int) - 1 = ((bg.length - 1 : Nat) : Int) := by omega
 have wu : IntKind.i64.wrap ((bg.length - 1 : Nat) : Int) = ((bg.length - 1 : Nat) : Int) := IntWalk.i64_in _ (by omega)
 have wx : bg.length - 1 < bg.length := by omega
 have wy : ((bg.length - 1 : Nat) : Int) < (bg.length : Int) := by omega
 have wv : (0 : Int) ≤ ((bg.length - 1 : Nat) : Int) := by omega
 have wz : 0 < ag.length := by omega
 clear hV ka hgq g0 g1 g2 g3 x0 x1 y0 y1 hB okg
 go_wp2_with fail
 rw [← HV.out]
 refine wp_region_held_drew (S := fun w' => w'.cell? ⟨w1.heap.size, 0, none⟩ = some (.bool true) ∧ w'.cell? ⟨w1.heap.size, 1, none⟩ = some (.int .i64 ug) ∧ w'.cell? ⟨w1.heap.size, 2, none⟩ = some (.slice (some ⟨ba, oa, none⟩) ag.length cag) ∧ w'.cell? ⟨w1.heap.size, 3, none⟩ = some (.slice (some ⟨bb, ob, none⟩) bg.length cbg) ∧ w'.cell? ⟨ba, oa, none⟩ = some (.int .i64 (leastR ag)) ∧ w'.cell? ⟨ba, oa + (ag.length - 1) * 2 + 1, none⟩ = some (.int .i64 (greatR ag)) ∧ w'.cell? ⟨bb, ob, none⟩ = some (.int .i64 (leastR bg)) ∧ w'.cell? ⟨bb, ob + (bg.length - 1) * 2 + 1, none⟩ = some (.int .i64 (greatR bg)) ∧ Kp V w') (by kernel_rfl) ?_ (fun hHeld0 => ?_)
 ·(try dsimp only); exact HB.out _ kw
 refine tkv 0 uA0 ?_
 (try simp only [Act.put, uA0, xA, xB, xC])
 refine tkv 1 uA1 ?_
 (try simp only [Act.put, uA1, xA, xB, xC])
 refine tkv 2 uA2 ?_
 (try simp only [Act.put, uA2, xA, xB, xC])
 refine tkv 3 uA3 ?_
 (try simp only [Act.put, uA3, xA, xB, xC])
 refine tkv 4 uA4 ?_
 (try simp only [Act.put, uA4, xA, xB, xC])
 refine tkv 5 uA5 ?_
 (try simp only [Act.put, uA5, xA, xB, xC])
 refine tkv 6 uA6 ?_
 (try simp only [Act.put, uA6, xA, xB, xC])
 refine tkv 7 uA7 ?_
 (try simp only [Act.put, uA7, xA, xB, xC])
 refine tkv 8 uA8 ?_
 (try simp only [Act.put, uA8, xA, xB, xC])
 refine tkv 9 uA9 ?_
 (try simp only [Act.put, uA9, xA, xB, xC])
 refine tkv 10 uA10 ?_
 (try simp only [Act.put, uA10, xA, xB, xC])
 refine tkv 11 uA11 ?_
 (try simp only [Act.put, uA11, xA, xB, xC])
 refine tkv 12 uA12 ?_
 (try simp only [Act.put, uA12, xA, xB, xC])
 refine tkv 13 uA13 ?_
 (try simp only [Act.put, uA13, xA, xB, xC])
 refine tkv 14 uA14 ?_
 (try simp only [Act.put, uA14, xA, xB, xC])
 refine tkv 15 uA15 ?_
 (try simp only [Act.put, uA15, xA, xB, xC])
 refine tkv 16 uA16 ?_
 (try simp only [Act.put, uA16, xA, xB, xC])
 refine tkv 17 uA17 ?_
 (try simp only [Act.put, uA17, xA, xB, xC])
 refine tkv 18 uA18 ?_
 (try simp only [Act.put, uA18, xA, xB, xC])
 refine tkv 19 uA19 ?_
 (try simp only [Act.put, uA19, xA, xB, xC])
 refine tkv 20 uA20 ?_
 (try simp only [Act.put, uA20, xA, xB, xC])
 refine tkv 21 uA21 ?_
 (try simp only [Act.put, uA21, xA, xB, xC])
 refine tkv 22 uA22 ?_
 (try simp only [Act.put, uA22, xA, xB, xC])
 refine tkv 23 uA23 ?_
 (try simp only [Act.put, uA23, xA, xB, xC])
 refine tkv 24 uA24 ?_
 (try simp only [Act.put, uA24, xA, xB, xC])
 refine tkv 25 uA25 ?_
 (try simp only [Act.put, uA25, xA, xB, xC])
 refine tkv 26 uA26 ?_
 (try simp only [Act.put, uA26, xA, xB, xC])
 refine tkv 27 uA27 ?_
 (try simp only [Act.put, uA27, xA, xB, xC])
 refine tkv 28 uA28 ?_
 (try simp only [Act.put, uA28, xA, xB, xC])
 refine tkv 29 uA29 ?_
 (try simp only [Act.put, uA29, xA, xB, xC])
 refine tkv 30 uA30 ?_
 (try simp only [Act.put, uA30, xA, xB, xC])
 refine wpAnyH_done (by kernel_rfl) ?_ _
 obtain ⟨X, hX⟩ : ∃ x, x = V.drew := ⟨_, rfl⟩
 have hBX : X.heap[w.heap.size + 1]? = some (.cells #[.bool false, .int .i64 0, .slice none 0 0, .slice none 0 0] 44 (0, 0)) := by rw [hX]; exact hBV
 have kx : Kp V X := by rw [hX]; exact Kp.drew _
 have KX := Hd kx
 have KWX := Hd (KV.out.trans kx)
 rw [← hX]
 clear hX hBV kx
 have CA := Hd (fun w2 (kk : Kp X w2) => rclipO_any _ ag 0 (greatR bg) w2 (OKV.out.a.kp (KX.out.trans kk)) OKV.out.ia (by omega) ii1)
 have CB := Hd (fun w2 (kk : Kp X w2) => rclipO_any _ bg (leastR ag) 3652424 w2 (OKV.out.b.kp (KX.out.trans kk)) OKV.out.ib (by omega) ii2)
 have HX := Hd (fun w' (k : Kp X w') => show w'.cell? ⟨w1.heap.size, 0, none⟩ = some (.bool true) ∧ w'.cell? ⟨w1.heap.size, 1, none⟩ = some (.int .i64 ug) ∧ w'.cell? ⟨w1.heap.size, 2, none⟩ = some (.slice (some ⟨ba, oa, none⟩) ag.length cag) ∧ w'.cell? ⟨w1.heap.size, 3, none⟩ = some (.slice (some ⟨bb, ob, none⟩) bg.length cbg) ∧ w'.cell? ⟨ba, oa, none⟩ = some (.int .i64 (leastR ag)) ∧ w'.cell? ⟨ba, oa + (ag.length - 1) * 2 + 1, none⟩ = some (.int .i64 (greatR ag)) ∧ w'.cell? ⟨bb, ob, none⟩ = some (.int .i64 (leastR bg)) ∧ w'.cell? ⟨bb, ob + (bg.length - 1) * 2 + 1, none⟩ = some (.int .i64 (greatR bg)) ∧ Kp X w' from by have h := HB.out w' (KX.out.trans k); exact ⟨h.1, h.2.1, h.2.2.1, h.2.2.2.1, h.2.2.2.2.1, h.2.2.2.2.2.1, h.2.2.2.2.2.2.1, h.2.2.2.2.2.2.2.1, k⟩)
 obtain ⟨c0, c1, c2, c3, c4, c5, c6, c7, _⟩ := HX.out X (Kp.refl _)
 go_wp2_with fail
 refine wp_region_held_drew (S := fun w' => w'.cell? ⟨w1.heap.size, 0, none⟩ = some (.bool true) ∧ w'.cell? ⟨w1.heap.size, 1, none⟩ = some (.int .i64 ug) ∧ w'.cell? ⟨w1.heap.size, 2, none⟩ = some (.slice (some ⟨ba, oa, none⟩) ag.length cag) ∧ w'.cell? ⟨w1.heap.size, 3, none⟩ = some (.slice (some ⟨bb, ob, none⟩) bg.length cbg) ∧ w'.cell? ⟨ba, oa, none⟩ = some (.int .i64 (leastR ag)) ∧ w'.cell? ⟨ba, oa + (ag.length - 1) * 2 + 1, none⟩ = some (.int .i64 (greatR ag)) ∧ w'.cell? ⟨bb, ob, none⟩ = some (.int .i64 (leastR bg)) ∧ w'.cell? ⟨bb, ob + (bg.length - 1) * 2 + 1, none⟩ = some (.int .i64 (greatR bg)) ∧ Kp X w') (by kernel_rfl) ?_ (fun hHeld0 => ?_)
 ·(try dsimp only); exact HX.out _ kw
 refine tkv 0 uB0 ?_
 (try simp only [Act.put, uB0, xA, xB, xC])
 refine tkv 1 uB1 ?_
 (try simp only [Act.put, uB1, xA, xB, xC])
 refine tkv 2 uB2 ?_
 (try simp only [Act.put, uB2, xA, xB, xC])
 refine tkv 3 uB3 ?_
 (try simp only [Act.put, uB3, xA, xB, xC])
 refine tkv 4 uB4 ?_
 (try simp only [Act.put, uB4, xA, xB, xC])
 refine tkv 5 uB5 ?_
 (try simp only [Act.put, uB5, xA, xB, xC])
 refine tkv 6 uB6 ?_
 (try simp only [Act.put, uB6, xA, xB, xC])
 refine tkv 7 uB7 ?_
 (try simp only [Act.put, uB7, xA, xB, xC])
 refine tkv 8 uB8 ?_
 (try simp only [Act.put, uB8, xA, xB, xC])
 refine tkv 9 uB9 ?_
 (try simp only [Act.put, uB9, xA, xB, xC])
 refine tkv 10 uB10 ?_
 (try simp only [Act.put, uB10, xA, xB, xC])
 refine tkE 11 uB11 rfl (by kernel_rfl) (fun K hK => ?_)
 go_simp
 (refine (CA.out _ kw).mono ?_; rintro e w' ⟨v4, rfl, r4, k1⟩; have r4 := own_mono r4 (show Kp X _ from kw).size; have k2 := Kp.trans (show Kp X _ from kw) k1; clear k1)
 (try go_wp2_with fail)
 refine hK.out _ _ ?_ (fun hHeld1 => ?_)
 ·(try dsimp only); exact HX.out _ kw
 clear hK K hHeld0
 (try simp only [Act.put, uB11, xA, xB, xC])
 refine tkv 12 uB12 ?_
 (try simp only [Act.put, uB12, xA, xB, xC])
 refine wpAnyH_done (by kernel_rfl) ?_ _
 obtain ⟨Y, hY⟩ : ∃ x : World, x = w' := ⟨_, rfl⟩
 subst hY
 obtain ⟨ad4, c4', rfl⟩ := own_slice r4
 have R4 := Hd r4
 have KY := Hd k2
 have HY := Hd (fun w' (k : Kp Y w') => show w'.cell? ⟨w1.heap.size, 0, none⟩ = some (.bool true) ∧ w'.cell? ⟨w1.heap.size, 1, none⟩ = some (.int .i64 ug) ∧ w'.cell? ⟨w1.heap.size, 2, none⟩ = some (.slice (some ⟨ba, oa, none⟩) ag.length cag) ∧ w'.cell? ⟨w1.heap.size, 3, none⟩ = some (.slice (some ⟨bb, ob, none⟩) bg.length cbg) ∧ w'.cell? ⟨ba, oa, none⟩ = some (.int .i64 (leastR ag)) ∧ w'.cell? ⟨ba, oa + (ag.length - 1) * 2 + 1, none⟩ = some (.int .i64 (greatR ag)) ∧ w'.cell? ⟨bb, ob, none⟩ = some (.int .i64 (leastR bg)) ∧ w'.cell? ⟨bb, ob + (bg.length - 1) * 2 + 1, none⟩ = some (.int .i64 (greatR bg)) ∧ Kp Y w' from by have h := HX.out w' (KY.out.trans k); exact ⟨h.1, h.2.1, h.2.2.1, h.2.2.2.1, h.2.2.2.2.1, h.2.2.2.2.2.1, h.2.2.2.2.2.2.1, h.2.2.2.2.2.2.2.1, k⟩)
 clear c0 c1 c2 c3 c4 c5 c6 c7 r4 k2
 obtain ⟨c0, c1, c2, c3, c4, c5, c6, c7, _⟩ := HY.out Y (Kp.refl _)
 go_wp2_with fail
 refine wp_region_held_drew (S := fun w' => w'.cell? ⟨w1.heap.size, 0, none⟩ = some (.bool true) ∧ w'.cell? ⟨w1.heap.size, 1, none⟩ = some (.int .i64 ug) ∧ w'.cell? ⟨w1.heap.size, 2, none⟩ = some (.slice (some ⟨ba, oa, none⟩) ag.length cag) ∧ w'.cell? ⟨w1.heap.size, 3, none⟩ = some (.slice (some ⟨bb, ob, none⟩) bg.length cbg) ∧ w'.cell? ⟨ba, oa, none⟩ = some (.int .i64 (leastR ag)) ∧ w'.cell? ⟨ba, oa + (ag.length - 1) * 2 + 1, none⟩ = some (.int .i64 (greatR ag)) ∧ w'.cell? ⟨bb, ob, none⟩ = some (.int .i64 (leastR bg)) ∧ w'.cell? ⟨bb, ob + (bg.length - 1) * 2 + 1, none⟩ = some (.int .i64 (greatR bg)) ∧ Kp Y w') (by kernel_rfl) ?_ (fun hHeld0 => ?_)
 ·(try dsimp only); exact HY.out _ kw
 refine tkv 0 uC0 ?_
 (try simp only [Act.put, uC0, xA, xB, xC])
 refine tkv 1 uC1 ?_
 (try simp only [Act.put, uC1, xA, xB, xC])
 refine tkv 2 uC2 ?_
 (try simp only [Act.put, uC2, xA, xB, xC])
 refine tkv 3 uC3 ?_
 (try simp only [Act.put, uC3, xA, xB, xC])
 refine tkv 4 uC4 ?_
 (try simp only [Act.put, uC4, xA, xB, xC])
 refine tkv 5 uC5 ?_
 (try simp only [Act.put, uC5, xA, xB, xC])
 refine tkv 6 uC6 ?_
 (try simp only [Act.put, uC6, xA, xB, xC])
 refine tkE 7 uC7 rfl (by kernel_rfl) (fun K hK => ?_)
 go_simp
 (refine (CB.out _ (KY.out.trans kw)).mono ?_; rintro e w' ⟨v5, rfl, r5, k1⟩; have r5 := own_mono r5 (show Kp Y _ from kw).size; have k2 := Kp.trans (show Kp Y _ from kw) k1; clear k1)
 (try go_wp2_with fail)
 refine hK.out _ _ ?_ (fun hHeld1 => ?_)
 ·(try dsimp only); exact HY.out _ kw
 clear hK K hHeld0
 (try simp only [Act.put, uC7, xA, xB, xC])
 refine tkv 8 uC8 ?_
 (try simp only [Act.put, uC8, xA, xB, xC])
 refine wpAnyH_done (by kernel_rfl) ?_ _
 obtain ⟨Z, hZ⟩ : ∃ x : World, x = w' := ⟨_, rfl⟩
 subst hZ
 obtain ⟨ad5, c5', rfl⟩ := own_slice r5
 have R5 := Hd r5
 have R6 := Hd (own_kp R4.out k2)
 have hBZ := heap_block (KY.out.trans k2) hBX
 have KZ := Hd (KWX.out.trans (KY.out.trans k2))
 clear r5 k2 c0 c1 c2 c3 c4 c5 c6 c7
 have r0 : Z.cell? ⟨w.heap.size + 1, 0, none⟩ = some (.bool false) := by simp [World.cell?, hBZ]
 have f0 : Z.frozen? ⟨w.heap.size + 1, 0, none⟩ = false := by simp [World.frozen?, hBZ]
 have r1 : Z.cell? ⟨w.heap.size + 1, 1, none⟩ = some (.int .i64 0) := by simp [World.cell?, hBZ]
 have f1 : Z.frozen? ⟨w.heap.size + 1, 1, none⟩ = false := by simp [World.frozen?, hBZ]
 have r2 : Z.cell? ⟨w.heap.size + 1, 2, none⟩ = some (.slice none 0 0) := by simp [World.cell?, hBZ]
 have f2 : Z.frozen? ⟨w.heap.size + 1, 2, none⟩ = false := by simp [World.frozen?, hBZ]
 have r3 : Z.cell? ⟨w.heap.size + 1, 3, none⟩ = some (.slice none 0 0) := by simp [World.cell?, hBZ]
 have f3 : Z.frozen? ⟨w.heap.size + 1, 3, none⟩ = false := by simp [World.frozen?, hBZ]
 go_wp2
 have RD0 := set4_read hBZ (.bool true) (.int .i64 0) (.slice ad4 (interR ag [(0, greatR bg)]).length c4') (.slice ad5 (interR bg [(leastR ag, 3652424)]).length c5') (Kp.refl _)
 exact bodyPost_ret (v := .agg #[.bool true, .int .i64 0, .slice ad4 (interR ag [(0, greatR bg)]).length c4', .slice ad5 (interR bg [(leastR ag, 3652424)]).length c5']) (by simp [results, Tryz.f81, go_sem, RD0]) rfl ⟨_, _, rfl, ⟨(OwnR.runs R6.out).off hBZ (set4_cell _ _ _ _ _ _), (OwnR.runs R5.out).off hBZ (set4_cell _ _ _ _ _ _), sane_i64 (interR_sane _ _), sane_i64 (interR_sane _ _), Nat.le_trans (interR_bd (q := 1) na (by simp)) (by omega), Nat.le_trans (interR_bd (q := 1) nb (by simp)) (by omega)⟩, set4_below KZ.out (w.heap.size + 1) (by omega) _ _ _ _, ⟨fun _ => ⟨own_mono (own_far4 R6.out (own_type_ne R6.out hBZ (by decide)) _ _ _ _) KWX.out.size, own_mono (own_far4 R5.out (own_type_ne R5.out hBZ (by decide)) _ _ _ _) (KWX.out.trans KY.out).size⟩, fun h => (by cases h)⟩⟩
theorem refTidyV_any (f : LF) (va vb : Value) (w0 w : World) (hL0 : LeafOk w0 f va vb) (k0 : Kp w0 w) :
  Calls Tryz.prog 81 #[leafV f va vb] w fun e w' => ∃ va' vb', e = .returned (leafV (lfOf (famR f)) va' vb') ∧ LeafOk w' (lfOf (famR f)) va' vb' ∧ Kp w w' ∧ ((lfOf (famR f)).sp = true → OwnR w' w.heap.size va' (lfOf (famR f)).a ∧ OwnR w' w.heap.size vb' (lfOf (famR f)).b) ∧ ((lfOf (famR f)).sp = false → LeafOk w0 (lfOf (famR f)) va' vb') := by
 have h := hL0.kp k0
 have hi : I64R (asL f).a ∧ I64R (asL f).b := by
  unfold asL
  split
  ·exact ⟨h.ia, h.ib⟩
  ·exact ⟨fun r hr => (by cases hr), fun r hr => (by cases hr)⟩
 rw [← tidL_as f]
 obtain ⟨spg, ug, ag, bg, e⟩ : ∃ s u a b, asL f = ⟨s, u, a, b⟩ := ⟨_, _, _, _, rfl⟩
 rw [e] at hi ⊢
 simp only at hi
 by_cases h0 : ag.length = 0
 ·rw [show tidL ⟨spg, ug, ag, bg⟩ = lf0 from if_pos (by unfold goneB; simp [h0])]
  exact refTidyV_1 spg ug ag bg hi.1 hi.2 f va vb w0 w hL0 k0 e h0
 ·rcases Bool.eq_false_or_eq_true spg with hs | hs
  ·by_cases h1 : bg.length = 0
   ·rw [show tidL ⟨spg, ug, ag, bg⟩ = lf0 from if_pos (by unfold goneB; simp [hs, h1])]
    exact refTidyV_3 spg ug ag bg hi.1 hi.2 f va vb w0 w hL0 k0 e h0 hs h1
   ·by_cases hg : greatR bg < leastR ag
    ·rw [show tidL ⟨spg, ug, ag, bg⟩ = lf0 from if_pos (by unfold goneB; simp [hs, hg])]
     exact refTidyV_4 spg ug ag bg hi.1 hi.2 f va vb w0 w hL0 k0 e h0 hs h1 hg
    ·have e2 : tidL ⟨spg, ug, ag, bg⟩ = ⟨true, 0, interR ag [(0, greatR bg)], interR bg [(leastR ag, 3652424)]⟩ := by
      unfold tidL
      rw [if_neg, if_pos hs]
      unfold goneB
      rw [decide_eq_false h0, decide_eq_false h1, decide_eq_false hg, hs]
      simp
     rw [e2]
     exact refTidyV_5 spg ug ag bg hi.1 hi.2 f va vb w0 w hL0 k0 e h0 hs h1 hg
  ·have e2 : tidL ⟨spg, ug, ag, bg⟩ = ⟨false, ug, ag, bg⟩ := by
    unfold tidL
    rw [if_neg, if_neg (by rw [hs]; simp), hs]
    unfold goneB
    rw [decide_eq_false h0, hs]
    simp
   rw [e2]
   exact refTidyV_2 spg ug ag bg hi.1 hi.2 f va vb w0 w hL0 k0 e h0 hs
theorem refTidy_any (f : LF) (va vb : Value) (w : World) (h : LeafOk w f va vb) :
  Calls Tryz.prog 81 #[leafV f va vb] w fun e w' => ∃ va' vb', e = .returned (leafV (lfOf (famR f)) va' vb') ∧ LeafOk w' (lfOf (famR f)) va' vb' ∧ Kp w w' :=
 (refTidyV_any f va vb w w h (Kp.refl w)).mono (by rintro e w' ⟨a, b, rfl, c, d, _⟩; exact ⟨a, b, rfl, c, d⟩)
end Go.Proofs.YtcooaoponkkpeaaGreatDoor
