import Derived.Test.YtcooaoponkkpeaaGreatDoorJY
import Derived.Test.YtcooaoponkkpeaaGreatDoorJO
import Derived.Test.YtcooaoponkkpeaaGreatDoorJA
set_option maxHeartbeats 16000000
set_option maxRecDepth 100000
namespace Go.Proofs.YtcooaoponkkpeaaGreatDoor
open Go.RowKit
set_option linter.unusedVariables false
set_option linter.unusedSimpArgs false
def Tabs20 (w : World) : Prop := Tabs w ∧ TabNM w
theorem Tabs20.kp {w w' : World} (h : Tabs20 w) (k : Kp w w') : Tabs20 w' := ⟨h.1.kp k, h.2.kp k⟩
noncomputable def canB (l m : List LF) (r : Int) : Bool := relOk l m && (invB r && (relM l m).testBit r.toNat)
noncomputable def mustB (l m : List LF) (k : Int) : Bool := relOk l m && (decide (relM l m ≠ 0) && decide (bits .andNot .i64 ((relM l m : Nat) : Int) k = 0))
theorem nm_eq {r : Int} (h : invB r = true) : (nm r).toList.isEmpty = false := by
 have bd : 0 ≤ r ∧ r ≤ 12 := by unfold invB at h; simpa using h
 unfold nm
 rw [if_pos h]
 obtain ⟨k, rfl⟩ := Int.eq_ofNat_of_zero_le bd.1
 have hk : k < 13 := by omega
 obtain rfl | rfl | rfl | rfl | rfl | rfl | rfl | rfl | rfl | rfl | rfl | rfl | rfl : k = 0 ∨ k = 1 ∨ k = 2 ∨ k = 3 ∨ k = 4 ∨ k = 5 ∨ k = 6 ∨ k = 7 ∨ k = 8 ∨ k = 9 ∨ k = 10 ∨ k = 11 ∨ k = 12 := by omega
 all_goals decide +kernel
theorem nm_no {r : Int} (h : invB r = false) : nm r = ByteArray.empty := by unfold nm; rw [h]; rfl
theorem can_any (va vb : Value) (l m : List LF) (r : Int) (w : World) (ha : LeavesAt w va l) (hb : LeavesAt w vb m) (oa : LsOk l) (ob : LsOk m) (na : l.length ≤ 100) (nb : m.length ≤ 100) (T : Tabs20 w) :
  Calls Tryz.prog 9 #[va, vb, .int .i64 r] w fun e w' => e = .returned (.bool (canB l m r)) ∧ Kp w w' := by
 have C := Hd (relations_any va vb l m w ha hb oa ob na nb T.1)
 have CN := Hd (fun w1 (k : Kp w w1) => name_any r w1 (T.2.kp k))
 have CB : canB l m r = (relOk l m && (invB r && (relM l m).testBit r.toNat)) := rfl
 have lt := Hd (relM_lt l m)
 have RE : relE l m = if relOk l m = true then 0 else 8 := rfl
 rw [CB]
 generalize relM l m = M at *
 cases ho : relOk l m with
 | false =>
  rw [ho] at RE
  rw [RE] at C
  simp only [if_neg Bool.false_ne_true] at C
  clear RE CB ho ha hb oa ob T
  go_enter Tryz.func9, Tryz.ntmps9
  go_wp2_with fail
  refine C.out.mono ?_
  rintro e w1 ⟨rfl, k1⟩
  have K1 := Hd k1
  clear k1
  go_wp2
  go_ret
  exact ⟨rfl, K1.out⟩
 | true =>
  rw [ho] at RE
  rw [RE] at C
  simp only [if_true] at C
  clear RE CB ho ha hb oa ob T
  cases hi : invB r with
  | false =>
   have en : (nm r).toList = ByteArray.empty.toList := by rw [nm_no hi]
   rw [nm_no hi] at CN
   clear hi en
   go_enter Tryz.func9, Tryz.ntmps9
   go_wp2_with fail
   refine C.out.mono ?_
   rintro e w1 ⟨rfl, k1⟩
   have K1 := Hd k1
   clear k1
   go_wp2_with fail
   refine (CN.out _ K1.out).mono ?_
   rintro e w' ⟨rfl, rfl⟩
   go_wp2
   go_ret
   exact ⟨rfl, K1.out⟩
  | true =>
   have en := nm_eq hi
   have bd : 0 ≤ r ∧ r ≤ 12 := by unfold invB at hi; simpa using hi
   obtain ⟨j, rfl⟩ := Int.eq_ofNat_of_zero_le bd.1
   generalize nm (j : Int) = s at *
   have wp := ak_pow (x := j) (by omega)
   have A1 : bits .and .i64 (M : Int) (IntKind.i64.wrap (2 ^ j)) = ((M &&& 2 ^ j : Nat) : Int) := by rw [wp]; exact ak_and lt.out (ak_lt (by omega))
   have A1w : bits .and .i64 (M : Int) (wrap64 (2 ^ j)) = ((M &&& 2 ^ j : Nat) : Int) := by
    have w64 : wrap64 ((2 : Int) ^ j) = IntKind.i64.wrap (2 ^ j) := by generalize (2 : Int) ^ j = y; rw [IntKind.wrap_i64]; unfold wrap64; omega
    rw [w64]
    exact A1
   have AZ := ak_zero M j
   have z0 : (0 : Int) ≤ (j : Int) := by omega
   have z1 : (j : Int) ≤ 12 := by omega
   have BT := Hd (show ∀ q : Bool, M.testBit j = q → (true && (true && M.testBit (j : Int).toNat)) = q from fun q h => by simpa using h)
   cases hbit : M.testBit j with
   | true =>
    have nz : ¬ (M &&& 2 ^ j = 0) := fun h => by rw [AZ.1 h] at hbit; cases hbit
    have BQ := BT.out _ hbit
    rw [BQ]
    generalize M &&& 2 ^ j = z at *
    have g1 : ((z : Int) == 0) = false := by simp; omega
    have g2 : ((z : Int) != 0) = true := by simp; omega
    have g4 : (z != 0) = true := by simp; omega
    have g3 : (z == 0) = false := by simp; omega
    clear AZ hbit BQ BT wp hi bd
    go_enter Tryz.func9, Tryz.ntmps9
    go_wp2_with fail
    refine C.out.mono ?_
    rintro e w1 ⟨rfl, k1⟩
    have K1 := Hd k1
    clear k1
    go_wp2_with fail
    refine (CN.out _ K1.out).mono ?_
    rintro e w' ⟨rfl, rfl⟩
    go_wp2
    go_ret
    exact ⟨rfl, K1.out⟩
   | false =>
    have nz := AZ.2 hbit
    have BQ := BT.out _ hbit
    rw [BQ]
    generalize M &&& 2 ^ j = z at *
    have g1 : ((z : Int) == 0) = true := by rw [nz]; rfl
    have g2 : ((z : Int) != 0) = false := by rw [nz]; rfl
    have g4 : (z != 0) = false := by rw [nz]; rfl
    have g3 : (z == 0) = true := by rw [nz]; rfl
    clear AZ hbit BQ BT wp hi bd
    go_enter Tryz.func9, Tryz.ntmps9
    go_wp2_with fail
    refine C.out.mono ?_
    rintro e w1 ⟨rfl, k1⟩
    have K1 := Hd k1
    clear k1
    go_wp2_with fail
    refine (CN.out _ K1.out).mono ?_
    rintro e w' ⟨rfl, rfl⟩
    go_wp2
    go_ret
    exact ⟨rfl, K1.out⟩
theorem must_any (va vb : Value) (l m : List LF) (k : Int) (w : World) (ha : LeavesAt w va l) (hb : LeavesAt w vb m) (oa : LsOk l) (ob : LsOk m) (na : l.length ≤ 100) (nb : m.length ≤ 100) (T : Tabs20 w) :
  Calls Tryz.prog 11 #[va, vb, .int .i64 k] w fun e w' => e = .returned (.bool (mustB l m k)) ∧ Kp w w' := by
 have C := Hd (relations_any va vb l m w ha hb oa ob na nb T.1)
 have CB : mustB l m k = (relOk l m && (decide (relM l m ≠ 0) && decide (bits .andNot .i64 ((relM l m : Nat) : Int) k = 0))) := rfl
 have RE : relE l m = if relOk l m = true then 0 else 8 := rfl
 rw [CB]
 generalize relM l m = M at *
 cases ho : relOk l m with
 | false =>
  rw [ho] at RE
  rw [RE] at C
  simp only [if_neg Bool.false_ne_true] at C
  clear RE CB ho ha hb oa ob T
  go_enter Tryz.func11, Tryz.ntmps11
  go_wp2_with fail
  refine C.out.mono ?_
  rintro e w1 ⟨rfl, k1⟩
  have K1 := Hd k1
  clear k1
  go_wp2
  go_ret
  exact ⟨rfl, K1.out⟩
 | true =>
  rw [ho] at RE
  rw [RE] at C
  simp only [if_true] at C
  clear RE CB ho ha hb oa ob T
  by_cases h0 : M = 0
  ·have e0 : (true && (decide (M ≠ 0) && decide (bits .andNot .i64 ((M : Nat) : Int) k = 0))) = false := by simp [h0]
   rw [e0]
   subst h0
   clear e0
   go_enter Tryz.func11, Tryz.ntmps11
   go_wp2_with fail
   refine C.out.mono ?_
   rintro e w1 ⟨rfl, k1⟩
   have K1 := Hd k1
   clear k1
   go_wp2
   go_ret
   exact ⟨rfl, K1.out⟩
  ·have g1 : ((M : Int) == 0) = false := by simp; omega
   have g2 : ((M : Int) != 0) = true := by simp; omega
   have g3 : (M == 0) = false := by simp; omega
   have g5 : (M != 0) = true := by simp; omega
   have e0 : ∀ q : Bool, (true && (true && q)) = q := fun q => by simp
   rw [decide_eq_true (show M ≠ 0 from h0)]
   obtain ⟨q, hq⟩ : ∃ q : Bool, decide (bits .andNot .i64 ((M : Nat) : Int) k = 0) = q := ⟨_, rfl⟩
   rw [hq, e0]
   clear e0
   generalize hz : bits .andNot .i64 ((M : Nat) : Int) k = z at *
   have g4 : (z == 0) = q := by rw [← hq]; by_cases e : z = 0 <;> simp [e]
   clear h0 hq
   cases q with
   | true =>
    go_enter Tryz.func11, Tryz.ntmps11
    go_wp2_with fail
    refine C.out.mono ?_
    rintro e w1 ⟨rfl, k1⟩
    have K1 := Hd k1
    clear k1
    go_wp2
    go_ret
    exact ⟨rfl, K1.out⟩
   | false =>
    go_enter Tryz.func11, Tryz.ntmps11
    go_wp2_with fail
    refine C.out.mono ?_
    rintro e w1 ⟨rfl, k1⟩
    have K1 := Hd k1
    clear k1
    go_wp2
    go_ret
    exact ⟨rfl, K1.out⟩
theorem few20_any (v : Value) (l : List LF) (w : World) (hv : LeavesAt w v l) (g : ∀ f ∈ l, LeafG f) :
  Calls Tryz.prog 6 #[v] w fun e w' => e = .returned (.bool (few20 l)) ∧ Kp w w' := by
 have C1 := Hd (fewL_any v l w hv)
 have C2 := Hd (fun (h : fewL l = true) w1 (k : Kp w w1) => units20_any v l w1 (hv.kp k) (fewL_ok h g).1 (by have := (fewL_ok h g).2; omega))
 have FE : few20 l = (fewL l && decide (unitsN l ≤ 60)) := rfl
 rw [FE]
 clear hv g FE
 generalize fewL l = q at *
 cases q with
 | false =>
  go_enter Tryz.func6, Tryz.ntmps6
  go_wp2_with fail
  refine C1.out.mono ?_
  rintro e w1 ⟨rfl, k1⟩
  have K1 := Hd k1
  clear k1
  go_wp2
  go_ret
  exact ⟨rfl, K1.out⟩
 | true =>
  generalize unitsN l = n at *
  obtain ⟨q, hq⟩ : ∃ q : Bool, decide (n ≤ 60) = q := ⟨_, rfl⟩
  rw [hq]
  go_enter Tryz.func6, Tryz.ntmps6
  go_wp2_with fail
  refine C1.out.mono ?_
  rintro e w1 ⟨rfl, k1⟩
  have K1 := Hd k1
  clear k1
  go_wp2_with fail
  refine (C2.out (by first | rfl | trivial) _ K1.out).mono ?_
  rintro e w2 ⟨rfl, k2⟩
  have K2 := Hd (K1.out.trans k2)
  clear k2
  go_wp2
  go_ret
  exact ⟨rfl, K2.out⟩
def moF (lo hi' : Int) : LF := ⟨false, 1, [(lo, hi')], []⟩
def yrF : LF := ⟨false, 3, [(1984, 1984)], []⟩
theorem leaf_one {w : World} {B : Nat} {u : Int} {va : Value} {a : List R} {T : TypeId} (h : w.heap[B]? = some (.cells #[.bool false, .int .i64 u, va, .slice none 0 0] T (0, 0))) (ha : RunsAt w va a) : LeavesAt w (.slice (some ⟨B, 0, none⟩) 1 1) [⟨false, u, a, []⟩] := by
 refine .inr ⟨B, 0, 1, rfl, Nat.le_refl _, by unfold maxLen; omega, fun i hi => ?_⟩
 obtain rfl : i = 0 := by simp at hi; omega
 obtain ⟨c0, c1, c2, c3⟩ := row4 h
 exact ⟨va, .slice none 0 0, c0, c1, c2, c3, ha, .inl ⟨_, _, rfl, rfl⟩⟩
theorem months_any (lo hi' : Int) (w : World) : Calls Tryz.prog 23 #[.int .i64 lo, .int .i64 hi'] w fun e w' => ∃ b, e = .returned (.slice (some ⟨b, 0, none⟩) 1 1) ∧ LeavesAt w' (.slice (some ⟨b, 0, none⟩) 1 1) [moF lo hi'] ∧ Kp w w' := by
 obtain ⟨W0, hW⟩ : ∃ W0, W0 = (w.alloc (.cells #[.int .i64 lo, .int .i64 hi'] 42)).alloc (.cells #[.bool false, .int .i64 1, .slice (some ⟨w.heap.size, 0, none⟩) 1 1, .slice none 0 0] 44) := ⟨_, rfl⟩
 have k0 : Kp w W0 := by rw [hW]; exact (Kp.alloc _ _).trans (Kp.alloc _ _)
 have g : W0.heap[w.heap.size + 1]? = some (.cells #[.bool false, .int .i64 1, .slice (some ⟨w.heap.size, 0, none⟩) 1 1, .slice none 0 0] 44 (0, 0)) := by rw [hW]; exact heap_at _ _ _ (by simp)
 have r : RunsAt W0 (.slice (some ⟨w.heap.size, 0, none⟩) 1 1) [(lo, hi')] := by rw [hW]; exact (one_at w lo hi' _).kp (Kp.alloc _ _)
 have D := Hd (show LeavesAt W0 (.slice (some ⟨w.heap.size + 1, 0, none⟩) 1 1) [moF lo hi'] ∧ Kp w W0 from ⟨leaf_one g r, k0⟩)
 have HW := Hd hW
 clear hW k0 g r
 go_enter Tryz.func23, Tryz.ntmps23
 go_wp2
 rw [← HW.out]
 go_ret
 exact ⟨_, rfl, D.out.1, D.out.2⟩
theorem mo_i64 {lo hi' : Int} (h1 : -9223372036854775808 ≤ lo) (h2 : lo ≤ 9223372036854775807) (h3 : -9223372036854775808 ≤ hi') (h4 : hi' ≤ 9223372036854775807) : LsOk [moF lo hi'] := by
 intro f hf
 rw [List.mem_singleton.1 hf]
 exact ⟨i64_one h1 h2 h3 h4, fun r h => (by cases h), by simp [moF], by simp [moF]⟩
theorem relM_units {f g : LF} {N : Nat} (hN : N < 8192) (hf : leafB f = true) (hg : leafB g = true) (sf : f.sp = false) (sg : g.sp = false) (ok : relOk [f] [g] = true)
  (h : ∀ r, r ≤ 12 → (N.testBit r = true ↔ ∃ i j, memR f.a i ∧ memR g.a j ∧ rel (fst f.u i) (lst f.u i) (fst g.u j) (lst g.u j) = r)) : relM [f] [g] = N := by
 refine mask_ext (relM_lt _ _) hN fun r hr => ?_
 rw [relM_bit ok hr, h r hr]
 have e : ∀ (q : LF) S T, hasP [q] S T ↔ hasF (famR q) S T = true := fun q S T => by unfold hasP hasL; simp
 unfold relP
 constructor
 ·rintro ⟨S, T, S', T', a, b, c⟩
  obtain ⟨i, m1, rfl, rfl⟩ := (hasF_un hf sf S T).1 ((e f S T).1 a)
  obtain ⟨j, m2, rfl, rfl⟩ := (hasF_un hg sg S' T').1 ((e g S' T').1 b)
  exact ⟨i, j, m1, m2, c⟩
 ·rintro ⟨i, j, m1, m2, c⟩
  exact ⟨_, _, _, _, (e f _ _).2 ((hasF_un hf sf _ _).2 ⟨i, m1, rfl, rfl⟩), (e g _ _).2 ((hasF_un hg sg _ _).2 ⟨j, m2, rfl, rfl⟩), c⟩
theorem okAll_one {f : LF} (hf : leafB f = true) (sf : f.sp = false) (h : edgB f.u f.a = true) : okAll [f] = true := by
 unfold okAll
 rw [List.all_cons, List.all_nil, famR_units hf sf]
 show (edgB f.u f.a && edgB f.u f.a && true) = true
 rw [h]
 rfl
theorem mem_same {a n : Int} (h : -1099511627776 ≤ a ∧ a ≤ 1099511627776) : memR [(a, a)] n ↔ n = a := by
 rw [memR_one]
 omega
theorem aw_one : relOk [moF 23808 23808] [moF 23809 23809] = true ∧ relM [moF 23808 23808] [moF 23809 23809] = 2 := by
 have l1 : leafB (moF 23808 23808) = true := by decide +kernel
 have l2 : leafB (moF 23809 23809) = true := by decide +kernel
 have ok : relOk [moF 23808 23808] [moF 23809 23809] = true := by
  unfold relOk
  rw [okAll_one l1 rfl (by decide +kernel), okAll_one l2 rfl (by decide +kernel)]
  rfl
 refine ⟨ok, relM_units (by decide) l1 l2 rfl rfl ok fun r hr => ?_⟩
 have e : rel (fst 1 23808) (lst 1 23808) (fst 1 23809) (lst 1 23809) = 1 := by decide +kernel
 have t : (2 : Nat).testBit r = true ↔ r = 1 := by
  obtain rfl | rfl | rfl | rfl | rfl | rfl | rfl | rfl | rfl | rfl | rfl | rfl | rfl : r = 0 ∨ r = 1 ∨ r = 2 ∨ r = 3 ∨ r = 4 ∨ r = 5 ∨ r = 6 ∨ r = 7 ∨ r = 8 ∨ r = 9 ∨ r = 10 ∨ r = 11 ∨ r = 12 := by omega
  all_goals decide
 rw [t]
 constructor
 ·rintro rfl
  exact ⟨23808, 23809, (mem_same (by decide)).2 rfl, (mem_same (by decide)).2 rfl, e⟩
 ·rintro ⟨i, j, m1, m2, c⟩
  rw [(mem_same (by decide)).1 m1, (mem_same (by decide)).1 m2] at c
  have c2 : (1 : Int) = (r : Int) := e.symm.trans c
  omega
theorem aw_five : relOk [moF 5 5] [moF 6 6] = true ∧ relM [moF 5 5] [moF 6 6] = 2 := by
 have l1 : leafB (moF 5 5) = true := by decide +kernel
 have l2 : leafB (moF 6 6) = true := by decide +kernel
 have ok : relOk [moF 5 5] [moF 6 6] = true := by
  unfold relOk
  rw [okAll_one l1 rfl (by decide +kernel), okAll_one l2 rfl (by decide +kernel)]
  rfl
 refine ⟨ok, relM_units (by decide) l1 l2 rfl rfl ok fun r hr => ?_⟩
 have e : rel (fst 1 5) (lst 1 5) (fst 1 6) (lst 1 6) = 1 := by decide +kernel
 have t : (2 : Nat).testBit r = true ↔ r = 1 := by
  obtain rfl | rfl | rfl | rfl | rfl | rfl | rfl | rfl | rfl | rfl | rfl | rfl | rfl : r = 0 ∨ r = 1 ∨ r = 2 ∨ r = 3 ∨ r = 4 ∨ r = 5 ∨ r = 6 ∨ r = 7 ∨ r = 8 ∨ r = 9 ∨ r = 10 ∨ r = 11 ∨ r = 12 := by omega
  all_goals decide
 rw [t]
 constructor
 ·rintro rfl
  exact ⟨5, 6, (mem_same (by decide)).2 rfl, (mem_same (by decide)).2 rfl, e⟩
 ·rintro ⟨i, j, m1, m2, c⟩
  rw [(mem_same (by decide)).1 m1, (mem_same (by decide)).1 m2] at c
  have c2 : (1 : Int) = (r : Int) := e.symm.trans c
  omega
theorem rel_year : ∀ n : Nat, n < 9 → rel (fst 1 (23808 + (n : Int))) (lst 1 (23808 + (n : Int))) (fst 3 1984) (lst 3 1984) = if n = 0 then 3 else 4 := by
 intro n hn
 obtain rfl | rfl | rfl | rfl | rfl | rfl | rfl | rfl | rfl : n = 0 ∨ n = 1 ∨ n = 2 ∨ n = 3 ∨ n = 4 ∨ n = 5 ∨ n = 6 ∨ n = 7 ∨ n = 8 := by omega
 all_goals decide +kernel
theorem aw_nine : relOk [moF 23808 23816] [yrF] = true ∧ relM [moF 23808 23816] [yrF] = 24 := by
 have l1 : leafB (moF 23808 23816) = true := by decide +kernel
 have l2 : leafB yrF = true := by decide +kernel
 have ok : relOk [moF 23808 23816] [yrF] = true := by
  unfold relOk
  rw [okAll_one l1 rfl (by decide +kernel), okAll_one l2 rfl (by decide +kernel)]
  rfl
 refine ⟨ok, relM_units (by decide) l1 l2 rfl rfl ok fun r hr => ?_⟩
 have t : (24 : Nat).testBit r = true ↔ r = 3 ∨ r = 4 := by
  obtain rfl | rfl | rfl | rfl | rfl | rfl | rfl | rfl | rfl | rfl | rfl | rfl | rfl : r = 0 ∨ r = 1 ∨ r = 2 ∨ r = 3 ∨ r = 4 ∨ r = 5 ∨ r = 6 ∨ r = 7 ∨ r = 8 ∨ r = 9 ∨ r = 10 ∨ r = 11 ∨ r = 12 := by omega
  all_goals decide
 rw [t]
 have m0 : ∀ i, memR (moF 23808 23816).a i ↔ 23808 ≤ i ∧ i ≤ 23816 := fun i => by
  show memR [(23808, 23816)] i ↔ _
  rw [memR_one]
  omega
 constructor
 ·rintro (rfl | rfl)
  ·exact ⟨23808, 1984, (m0 _).2 (by omega), (mem_same (by decide)).2 rfl, rel_year 0 (by decide)⟩
  ·exact ⟨23809, 1984, (m0 _).2 (by omega), (mem_same (by decide)).2 rfl, rel_year 1 (by decide)⟩
 ·rintro ⟨i, j, m1, m2, c⟩
  rw [(mem_same (by decide)).1 m2] at c
  have b := (m0 i).1 m1
  obtain ⟨n, rfl⟩ : ∃ n : Nat, i = 23808 + (n : Int) := ⟨(i - 23808).toNat, by omega⟩
  have e := rel_year n (by omega)
  have c2 := e.symm.trans c
  split at c2 <;> omega
theorem awake20 (w : World) (T : Tabs20 w) : Calls Tryz.prog 5 #[] w fun e w' => e = .returned (.bool true) ∧ Kp w w' := by
 have i1 := mo_i64 (lo := 23808) (hi' := 23808) (by decide) (by decide) (by decide) (by decide)
 have i2 := mo_i64 (lo := 23809) (hi' := 23809) (by decide) (by decide) (by decide) (by decide)
 have i3 := mo_i64 (lo := 23808) (hi' := 23816) (by decide) (by decide) (by decide) (by decide)
 have i5 := mo_i64 (lo := 5) (hi' := 5) (by decide) (by decide) (by decide) (by decide)
 have i6 := mo_i64 (lo := 6) (hi' := 6) (by decide) (by decide) (by decide) (by decide)
 have iy : LsOk [yrF] := by
  intro f hf
  rw [List.mem_singleton.1 hf]
  exact ⟨i64_one (by decide) (by decide) (by decide) (by decide), fun r h => (by cases h), by simp [yrF], by simp [yrF]⟩
 have CM := Hd (fun lo hi' w1 => months_any lo hi' w1)
 have C1 := Hd (fun va vb w1 (h1 : LeavesAt w1 va [moF 23808 23808]) (h2 : LeavesAt w1 vb [moF 23809 23809]) (k : Kp w w1) => show Calls Tryz.prog 7 #[va, vb] w1 fun e w' => e = .returned (.tuple #[.int .i64 2, .int .i64 0]) ∧ Kp w1 w' from by
  have h := relations_any va vb _ _ w1 h1 h2 i1 i2 (by simp) (by simp) (T.kp k).1
  rw [aw_one.2, show relE [moF 23808 23808] [moF 23809 23809] = 0 from if_pos aw_one.1] at h
  exact h)
 have C2 := Hd (fun va vb w1 (h1 : LeavesAt w1 va [moF 23808 23816]) (h2 : LeavesAt w1 vb [yrF]) (k : Kp w w1) => show Calls Tryz.prog 7 #[va, vb] w1 fun e w' => e = .returned (.tuple #[.int .i64 24, .int .i64 0]) ∧ Kp w1 w' from by
  have h := relations_any va vb _ _ w1 h1 h2 i3 iy (by simp) (by simp) (T.kp k).1
  rw [aw_nine.2, show relE [moF 23808 23816] [yrF] = 0 from if_pos aw_nine.1] at h
  exact h)
 have C3 := Hd (fun va vb w1 (h1 : LeavesAt w1 va [moF 5 5]) (h2 : LeavesAt w1 vb [moF 6 6]) (k : Kp w w1) => show Calls Tryz.prog 9 #[va, vb, .int .i64 1] w1 fun e w' => e = .returned (.bool true) ∧ Kp w1 w' from by
  have h := can_any va vb _ _ 1 w1 h1 h2 i5 i6 (by simp) (by simp) (T.kp k)
  rw [show canB [moF 5 5] [moF 6 6] 1 = true by unfold canB; rw [aw_five.1, aw_five.2]; decide] at h
  exact h)
 have C4 := Hd (fun va vb w1 (h1 : LeavesAt w1 va [moF 5 5]) (h2 : LeavesAt w1 vb [moF 6 6]) (k : Kp w w1) => show Calls Tryz.prog 11 #[va, vb, .int .i64 3] w1 fun e w' => e = .returned (.bool true) ∧ Kp w1 w' from by
  have h := must_any va vb _ _ 3 w1 h1 h2 i5 i6 (by simp) (by simp) (T.kp k)
  rw [show mustB [moF 5 5] [moF 6 6] 3 = true by unfold mustB; rw [aw_five.1, aw_five.2]; decide] at h
  exact h)
 have K0 := Hd (Kp.refl w)
 clear i1 i2 i3 i5 i6 iy T
 go_enter Tryz.func5, Tryz.ntmps5
 go_wp2_with fail
 refine (CM.out 23808 23808 _).mono ?_
 rintro e w1 ⟨b1, rfl, lv, k1⟩
 have L1 := Hd lv
 have K1 := Hd (K0.out.trans ((show Kp w _ from kx).trans k1))
 clear lv k1
 go_wp2_with fail
 refine (CM.out 23809 23809 _).mono ?_
 rintro e w2 ⟨b2, rfl, lv, k1⟩
 have L2 := Hd lv
 have K2 := Hd (K1.out.trans ((show Kp w1 _ from kx).trans k1))
 replace L1 := Hd (L1.out.kp ((show Kp w1 _ from kx).trans k1))
 clear lv k1
 go_wp2_with fail
 refine (C1.out _ _ _ (L1.out.kp kx) (L2.out.kp kx) (K2.out.trans kx)).mono ?_
 rintro e w3 ⟨rfl, k1⟩
 have K3 := Hd (K2.out.trans ((show Kp w2 _ from kx).trans k1))
 clear k1
 go_wp2_with fail
 refine (CM.out 23808 23816 _).mono ?_
 rintro e w4 ⟨b4, rfl, lv, k1⟩
 have L4 := Hd lv
 have K4 := Hd (K3.out.trans ((show Kp w3 _ from kx).trans k1))
 clear lv k1
 obtain ⟨V, hV⟩ : ∃ x, x = (w4.alloc (.cells #[.int .i64 1984, .int .i64 1984] 42)).alloc (.cells #[.bool false, .int .i64 3, .slice (some ⟨w4.heap.size, 0, none⟩) 1 1, .slice none 0 0] 44) := ⟨_, rfl⟩
 have kv : Kp w4 V := by rw [hV]; exact (Kp.alloc _ _).trans (Kp.alloc _ _)
 have gv : V.heap[w4.heap.size + 1]? = some (.cells #[.bool false, .int .i64 3, .slice (some ⟨w4.heap.size, 0, none⟩) 1 1, .slice none 0 0] 44 (0, 0)) := by rw [hV]; exact heap_at _ _ _ (by simp)
 have rv : RunsAt V (.slice (some ⟨w4.heap.size, 0, none⟩) 1 1) [(1984, 1984)] := by rw [hV]; exact (one_at w4 1984 1984 _).kp (Kp.alloc _ _)
 have LY := Hd (show LeavesAt V (.slice (some ⟨w4.heap.size + 1, 0, none⟩) 1 1) [yrF] from leaf_one gv rv)
 have L4' := Hd (L4.out.kp kv)
 have KV := Hd (K4.out.trans kv)
 have HV := Hd hV
 clear hV kv gv rv
 go_wp2_with fail
 rw [← HV.out]
 refine (C2.out _ _ _ L4'.out LY.out KV.out).mono ?_
 rintro e w5 ⟨rfl, k1⟩
 have K5 := Hd (KV.out.trans k1)
 clear k1
 go_wp2_with fail
 refine (CM.out 5 5 _).mono ?_
 rintro e w6 ⟨b6, rfl, lv, k1⟩
 have L6 := Hd lv
 have K6 := Hd (K5.out.trans ((show Kp w5 _ from kx).trans k1))
 clear lv k1
 go_wp2_with fail
 refine (CM.out 6 6 _).mono ?_
 rintro e w7 ⟨b7, rfl, lv, k1⟩
 have L7 := Hd lv
 have K7 := Hd (K6.out.trans ((show Kp w6 _ from kx).trans k1))
 replace L6 := Hd (L6.out.kp ((show Kp w6 _ from kx).trans k1))
 clear lv k1
 go_wp2_with fail
 refine (C3.out _ _ _ (L6.out.kp kx) (L7.out.kp kx) (K7.out.trans kx)).mono ?_
 rintro e w8 ⟨rfl, k1⟩
 have K8 := Hd (K7.out.trans ((show Kp w7 _ from kx).trans k1))
 clear k1
 go_wp2_with fail
 refine (CM.out 5 5 _).mono ?_
 rintro e w9 ⟨b9, rfl, lv, k1⟩
 have L9 := Hd lv
 have K9 := Hd (K8.out.trans ((show Kp w8 _ from kx).trans k1))
 clear lv k1
 go_wp2_with fail
 refine (CM.out 6 6 _).mono ?_
 rintro e w10 ⟨b10, rfl, lv, k1⟩
 have L10 := Hd lv
 have K10 := Hd (K9.out.trans ((show Kp w9 _ from kx).trans k1))
 replace L9 := Hd (L9.out.kp ((show Kp w9 _ from kx).trans k1))
 clear lv k1
 go_wp2_with fail
 refine (C4.out _ _ _ (L9.out.kp kx) (L10.out.kp kx) (K10.out.trans kx)).mono ?_
 rintro e w11 ⟨rfl, k1⟩
 have K11 := Hd (K10.out.trans ((show Kp w10 _ from kx).trans k1))
 clear k1
 go_wp2
 go_ret
 exact ⟨rfl, K11.out⟩
end Go.Proofs.YtcooaoponkkpeaaGreatDoor
