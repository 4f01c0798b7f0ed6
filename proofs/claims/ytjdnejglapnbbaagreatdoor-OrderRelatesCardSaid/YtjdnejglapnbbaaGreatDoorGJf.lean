import Derived.Test.YtjdnejglapnbbaaGreatDoorRlU
import Derived.Test.YtjdnejglapnbbaaGreatDoorRlW
import Derived.Test.YtjdnejglapnbbaaGreatDoorGEnv
import Derived.Test.YtjdnejglapnbbaaGreatDoorGJa
import Derived.Test.YtjdnejglapnbbaaGreatDoorGLeafA
set_option maxHeartbeats 16000000
set_option maxRecDepth 100000
namespace Go.Proofs.YtjdnejglapnbbaaGreatDoor
open Go.RowKit
set_option linter.unusedVariables false
set_option linter.unusedSimpArgs false
open Classical in
noncomputable def bitsN (X : Nat → Prop) : Nat := (List.range 13).foldl (fun m r => if X r then m ||| 2 ^ r else m) 0
open Classical in
theorem bitsN_fold (X : Nat → Prop) : ∀ k, k ≤ 13 → (∀ r, r ≤ 12 → (((List.range k).foldl (fun m r => if X r then m ||| 2 ^ r else m) 0).testBit r = true ↔ r < k ∧ X r)) ∧ (List.range k).foldl (fun m r => if X r then m ||| 2 ^ r else m) 0 < 8192
 | 0, _ => ⟨fun r _ => by simp, by simp⟩
 | k + 1, h => by
  obtain ⟨h1, h2⟩ := bitsN_fold X k (by omega)
  rw [List.range_succ, List.foldl_append]
  simp only [List.foldl_cons, List.foldl_nil]
  by_cases c : X k
  ·rw [if_pos c]
   refine ⟨fun r hr => ?_, ask_lt h2 (by omega)⟩
   rw [ak_bit, h1 r hr]
   constructor
   ·rintro (⟨a, b⟩ | rfl)
    ·exact ⟨by omega, b⟩
    ·exact ⟨by omega, c⟩
   ·rintro ⟨a, b⟩
    by_cases e : r = k
    ·exact .inr e
    ·exact .inl ⟨by omega, b⟩
  ·rw [if_neg c]
   refine ⟨fun r hr => ?_, h2⟩
   rw [h1 r hr]
   constructor
   ·rintro ⟨a, b⟩; exact ⟨by omega, b⟩
   ·rintro ⟨a, b⟩
    by_cases e : r = k
    ·subst e; exact absurd b c
    ·exact ⟨by omega, b⟩
theorem bitsN_bit (X : Nat → Prop) {r : Nat} (hr : r ≤ 12) : (bitsN X).testBit r = true ↔ X r := by
 have := (bitsN_fold X 13 (Nat.le_refl _)).1 r hr
 unfold bitsN
 rw [this]
 exact ⟨And.right, fun h => ⟨by omega, h⟩⟩
theorem bitsN_lt (X : Nat → Prop) : bitsN X < 8192 := (bitsN_fold X 13 (Nat.le_refl _)).2
theorem mask_ext {a b : Nat} (ha : a < 8192) (hb : b < 8192) (h : ∀ r, r ≤ 12 → (a.testBit r = true ↔ b.testBit r = true)) : a = b := by
 apply Nat.eq_of_testBit_eq
 intro i
 by_cases c : i ≤ 12
 ·have := h i c
  cases x : a.testBit i <;> cases y : b.testBit i <;> simp_all
 ·have p : 8192 ≤ 2 ^ i := by
   have : 2 ^ 13 ≤ 2 ^ i := Nat.pow_le_pow_right (by decide) (by omega)
   omega
  rw [Nat.testBit_lt_two_pow (by omega), Nat.testBit_lt_two_pow (by omega)]
theorem bitsN_eq {m : Nat} {X : Nat → Prop} (h : m < 8192) (g : bitsP m 0 X) : m = bitsN X :=
 mask_ext h (bitsN_lt X) fun r hr => by rw [g r hr, bitsN_bit X hr]; simp
theorem bitsN_congr {X Y : Nat → Prop} (h : ∀ r, r ≤ 12 → (X r ↔ Y r)) : bitsN X = bitsN Y :=
 mask_ext (bitsN_lt X) (bitsN_lt Y) fun r hr => by rw [bitsN_bit X hr, bitsN_bit Y hr, h r hr]
def hasP (l : List LF) : Int → Int → Prop := fun S T => hasL l S T = true
theorem hasP_ok (l : List LF) : prOk (hasP l) := by
 intro S T h
 obtain ⟨f, _, g⟩ := List.any_eq_true.1 h
 have := hasF_le (famR_ok f) g
 omega
noncomputable def relOk (l m : List LF) : Bool := okAll l && okAll m
noncomputable def relM (l m : List LF) : Nat := if relOk l m = true then bitsN (relP (hasP l) (hasP m)) else 0
noncomputable def relE (l m : List LF) : Int := if relOk l m = true then 0 else 8
theorem relM_lt (l m : List LF) : relM l m < 8192 := by
 unfold relM
 split
 ·exact bitsN_lt _
 ·decide
theorem relM_bit {l m : List LF} (h : relOk l m = true) {r : Nat} (hr : r ≤ 12) : (relM l m).testBit r = true ↔ relP (hasP l) (hasP m) r := by
 unfold relM
 rw [if_pos h, bitsN_bit _ hr]
theorem relP_congr {P P' Q Q' : Int → Int → Prop} (h : ∀ S T, P S T ↔ P' S T) (g : ∀ S T, Q S T ↔ Q' S T) (r : Nat) : relP P Q r ↔ relP P' Q' r := by
 unfold relP
 simp only [h, g]
theorem FdAt.forms {w : World} {va vo : Value} {F : FdD} (h : FdAt w (.agg #[va, vo]) F) : (∃ b n c, va = .slice (some ⟨b, 0, none⟩) n c) ∧ ∃ a n c, vo = .slice a n c := by
 obtain ⟨vl, vo', e, h1, h2⟩ := h
 cases e
 obtain ⟨b, c, e⟩ := h1.open'
 obtain ⟨a, d, e2⟩ := h2.slice
 exact ⟨⟨_, _, _, e⟩, _, _, _, e2⟩
theorem relations_any (va vb : Value) (l m : List LF) (w : World) (ha : LeavesAt w va l) (hb : LeavesAt w vb m) (oa : LsOk l) (ob : LsOk m) (na : l.length ≤ 100) (nb : m.length ≤ 100) (T : Tabs w) :
  Calls Tryz.prog 14 #[va, vb] w fun e w' => e = .returned (.tuple #[.int .i64 ((relM l m : Nat) : Int), .int .i64 (relE l m)]) ∧ Kp w w' := by
 have C1 := Lib.hid (sorted_any va l w ha oa na T)
 have C2 := Lib.hid (fun w1 (k : Kp w w1) => sorted_any vb m w1 (hb.kp k) ob nb (T.kp k))
 have CB := Lib.hid (fun fa fb F G w1 (h1 : FdAt w1 fa F) (h2 : FdAt w1 fb G) (h3 : FdOk F) (h4 : FdOk G) => between_any fa fb F G w1 h1 h2 h3 h4)
 have R0 : ¬ (okAll l = true ∧ okAll m = true) → Hid (relM l m = 0 ∧ relE l m = 8) := fun h => by
  have e : ¬ relOk l m = true := fun g => h (by unfold relOk at g; simpa using g)
  exact Lib.hid ⟨if_neg e, if_neg e⟩
 have R1 : okAll l = true ∧ okAll m = true → Hid (relM l m = bitsN (relP (hasP l) (hasP m)) ∧ relE l m = 0) := fun h => by
  have e : relOk l m = true := by unfold relOk; simpa using h
  exact Lib.hid ⟨if_pos e, if_pos e⟩
 have R1 := Lib.hid R1
 have R0 := Lib.hid R0
 generalize relM l m = M at *
 generalize relE l m = E at *
 clear ha hb oa ob T
 go_enter Tryz.func14, Tryz.ntmps14
 go_wp2_with fail
 refine C1.out.mono ?_
 rintro e w1 ⟨⟨p1, p2⟩, k1⟩
 cases hl : okAll l with
 | false =>
  have e := p2 hl
  subst e
  obtain ⟨e1, e2⟩ := (R0.out (by rw [hl]; simp)).out
  subst e1
  subst e2
  have K1 := Lib.hid k1
  clear p1 p2 hl k1 R0 R1
  go_wp2
  go_ret2
  exact ⟨rfl, K1.out.trans (by first | exact Kp.alloc _ _ | exact (Kp.alloc _ _).trans (Kp.alloc _ _) | exact Kp.refl _)⟩
 | true =>
  obtain ⟨fa, F, e, fA, oF, hF⟩ := p1 hl
  subst e
  have HF := Lib.hid hF
  obtain ⟨va1, vo1, rfl, -, -⟩ := id fA
  have FA := Lib.hid fA
  have OF := Lib.hid oF
  have HL := Lib.hid hl
  have K1 := Lib.hid k1
  have sl1 := fA.forms
  obtain ⟨⟨b1, n1, c1, rfl⟩, a1, m1, d1, rfl⟩ := sl1
  obtain ⟨V1, hV⟩ : ∃ x, x = w1.alloc (.cells #[.slice (some ⟨b1, 0, none⟩) n1 c1, .slice a1 m1 d1] 61) := ⟨_, rfl⟩
  have kv : Kp w1 V1 := by rw [hV]; exact Kp.alloc _ _
  have gv : V1.heap[w1.heap.size]? = some (.cells #[.slice (some ⟨b1, 0, none⟩) n1 c1, .slice a1 m1 d1] 61 (0, 0)) := by rw [hV]; exact heap_at _ _ _ rfl
  have G1 := Lib.hid gv
  have KV1 := Lib.hid (k1.trans kv)
  have HV := Lib.hid hV
  have KVV := Lib.hid kv
  clear p1 p2 hl k1 hF fA oF hV kv gv
  go_upto_region 4 with fail
  rw [← HV.out]
  clear HV
  go_wp2_with fail
  refine (C2.out _ KV1.out).mono ?_
  rintro e w2 ⟨⟨p1, p2⟩, k2⟩
  cases hm : okAll m with
  | false =>
   have e := p2 hm
   subst e
   obtain ⟨e1, e2⟩ := (R0.out (by rw [hm]; simp)).out
   subst e1
   subst e2
   have K2 := Lib.hid (KV1.out.trans k2)
   clear p1 p2 hm k2 R0 R1
   go_wp2
   go_ret2
   exact ⟨rfl, K2.out.trans (by first | exact Kp.alloc _ _ | exact (Kp.alloc _ _).trans (Kp.alloc _ _) | exact Kp.refl _)⟩
  | true =>
   obtain ⟨fb, G, e, fB, oG, hG⟩ := p1 hm
   subst e
   obtain ⟨vb1, vp1, rfl, -, -⟩ := id fB
   obtain ⟨e1, e2⟩ := (R1.out ⟨HL.out, hm⟩).out
   have HG := Lib.hid hG
   have E1 := Lib.hid e1
   subst e2
   have sl2 := fB.forms
   obtain ⟨⟨b2, n2, c2, rfl⟩, a2, m2, d2, rfl⟩ := sl2
   obtain ⟨V2, hV⟩ : ∃ x, x = w2.alloc (.cells #[.slice (some ⟨b2, 0, none⟩) n2 c2, .slice a2 m2 d2] 61) := ⟨_, rfl⟩
   have kv : Kp w2 V2 := by rw [hV]; exact Kp.alloc _ _
   have gv : V2.heap[w2.heap.size]? = some (.cells #[.slice (some ⟨b2, 0, none⟩) n2 c2, .slice a2 m2 d2] 61 (0, 0)) := by rw [hV]; exact heap_at _ _ _ rfl
   have CBB := Lib.hid (CB.out _ _ F G V2 (FA.out.kp (KVV.out.trans (k2.trans kv))) (fB.kp kv) OF.out oG)
   obtain ⟨x0, x1⟩ := row2 (heap_block (k2.trans kv) G1.out)
   obtain ⟨y0, y1⟩ := row2 gv
   have KV2 := Lib.hid (KV1.out.trans (k2.trans kv))
   have HV := Lib.hid hV
   clear p1 p2 hm k2 hG fB oG e1 R0 R1 CB FA OF C1 C2 G1 gv hV kv
   go_upto_region 7 with fail
   rw [← HV.out]
   clear HV
   go_wp2_with fail
   refine CBB.out.mono ?_
   rintro e w3 ⟨q, rfl, h1, h2, h3⟩
   have QE := Lib.hid (show q = M by rw [E1.out, bitsN_eq h1 h2]; exact bitsN_congr fun r _ => relP_congr HF.out HG.out r)
   have K3 := Lib.hid (KV2.out.trans h3)
   clear h1 h2 h3
   go_wp2
   go_ret2
   exact ⟨by rw [QE.out]; rfl, K3.out⟩
def Tabs20 (w : World) : Prop := Tabs w ∧ TabNM w
theorem Tabs20.kp {w w' : World} (h : Tabs20 w) (k : Kp w w') : Tabs20 w' := ⟨h.1.kp k, h.2.kp k⟩
noncomputable def canB (l m : List LF) (r : Int) : Bool := relOk l m && (invB r && (relM l m).testBit r.toNat)
noncomputable def mustB (l m : List LF) (k : Int) : Bool := relOk l m && (decide (relM l m ≠ 0) && decide (bits .andNot .i64 ((relM l m : Nat) : Int) k = 0))
theorem nm_eq {r : Int} (h : invB r = true) : (nm r).toList.isEmpty = false := by
 have bd : 0 ≤ r ∧ r ≤ 12 := by unfold invB at h; simpa using h
 unfold nm
 rw [if_pos h]
 obtain ⟨k, rfl⟩ := Int.eq_ofNat_of_zero_le bd.1
 have hk : k < 13 := by omega
 obtain rfl | rfl | rfl | rfl | rfl | rfl | rfl | rfl | rfl | rfl | rfl | rfl | rfl : k = 0 ∨ k = 1 ∨ k = 2 ∨ k = 3 ∨ k = 4 ∨ k = 5 ∨ k = 6 ∨ k = 7 ∨ k = 8 ∨ k = 9 ∨ k = 10 ∨ k = 11 ∨ k = 12 := by omega
 all_goals decide +kernel
theorem nm_no {r : Int} (h : invB r = false) : nm r = ByteArray.empty := by unfold nm; rw [h]; rfl
theorem can_any (va vb : Value) (l m : List LF) (r : Int) (w : World) (ha : LeavesAt w va l) (hb : LeavesAt w vb m) (oa : LsOk l) (ob : LsOk m) (na : l.length ≤ 100) (nb : m.length ≤ 100) (T : Tabs20 w) :
  Calls Tryz.prog 16 #[va, vb, .int .i64 r] w fun e w' => e = .returned (.bool (canB l m r)) ∧ Kp w w' := by
 have C := Lib.hid (relations_any va vb l m w ha hb oa ob na nb T.1)
 have CN := Lib.hid (fun w1 (k : Kp w w1) => name_any r w1 (T.2.kp k))
 have CB : canB l m r = (relOk l m && (invB r && (relM l m).testBit r.toNat)) := rfl
 have lt := Lib.hid (relM_lt l m)
 have RE : relE l m = if relOk l m = true then 0 else 8 := rfl
 rw [CB]
 generalize relM l m = M at *
 cases ho : relOk l m with
 | false =>
  rw [ho] at RE
  rw [RE] at C
  simp only [if_neg Bool.false_ne_true] at C
  clear RE CB ho ha hb oa ob T
  go_enter Tryz.func16, Tryz.ntmps16
  go_wp2_with fail
  refine C.out.mono ?_
  rintro e w1 ⟨rfl, k1⟩
  have K1 := Lib.hid k1
  clear k1
  go_wp2
  go_ret
  exact ⟨rfl, K1.out⟩
 | true =>
  rw [ho] at RE
  rw [RE] at C
  simp only [if_true] at C
  clear RE CB ho ha hb oa ob T
  cases hi : invB r with
  | false =>
   have en : (nm r).toList = ByteArray.empty.toList := by rw [nm_no hi]
   rw [nm_no hi] at CN
   clear hi en
   go_enter Tryz.func16, Tryz.ntmps16
   go_wp2_with fail
   refine C.out.mono ?_
   rintro e w1 ⟨rfl, k1⟩
   have K1 := Lib.hid k1
   clear k1
   go_wp2_with fail
   refine (CN.out _ K1.out).mono ?_
   rintro e w' ⟨rfl, rfl⟩
   go_wp2
   go_ret
   exact ⟨rfl, K1.out⟩
  | true =>
   have en := nm_eq hi
   have bd : 0 ≤ r ∧ r ≤ 12 := by unfold invB at hi; simpa using hi
   obtain ⟨j, rfl⟩ := Int.eq_ofNat_of_zero_le bd.1
   generalize nm (j : Int) = s at *
   have wp := ak_pow (x := j) (by omega)
   have A1 : bits .and .i64 (M : Int) (IntKind.i64.wrap (2 ^ j)) = ((M &&& 2 ^ j : Nat) : Int) := by rw [wp]; exact ak_and lt.out (ak_lt (by omega))
   have A1w : bits .and .i64 (M : Int) (wrap64 (2 ^ j)) = ((M &&& 2 ^ j : Nat) : Int) := by
    have w64 : wrap64 ((2 : Int) ^ j) = IntKind.i64.wrap (2 ^ j) := by generalize (2 : Int) ^ j = y; rw [IntKind.wrap_i64]; unfold wrap64; omega
    rw [w64]
    exact A1
   have AZ := ak_zero M j
   have z0 : (0 : Int) ≤ (j : Int) := by omega
   have z1 : (j : Int) ≤ 12 := by omega
   have BT := Lib.hid (show ∀ q : Bool, M.testBit j = q → (true && (true && M.testBit (j : Int).toNat)) = q from fun q h => by simpa using h)
   cases hbit : M.testBit j with
   | true =>
    have nz : ¬ (M &&& 2 ^ j = 0) := fun h => by rw [AZ.1 h] at hbit; cases hbit
    have BQ := BT.out _ hbit
    rw [BQ]
    generalize M &&& 2 ^ j = z at *
    have g1 : ((z : Int) == 0) = false := by simp; omega
    have g2 : ((z : Int) != 0) = true := by simp; omega
    have g4 : (z != 0) = true := by simp; omega
    have g3 : (z == 0) = false := by simp; omega
    clear AZ hbit BQ BT wp hi bd
    go_enter Tryz.func16, Tryz.ntmps16
    go_wp2_with fail
    refine C.out.mono ?_
    rintro e w1 ⟨rfl, k1⟩
    have K1 := Lib.hid k1
    clear k1
    go_wp2_with fail
    refine (CN.out _ K1.out).mono ?_
    rintro e w' ⟨rfl, rfl⟩
    go_wp2
    go_ret
    exact ⟨rfl, K1.out⟩
   | false =>
    have nz := AZ.2 hbit
    have BQ := BT.out _ hbit
    rw [BQ]
    generalize M &&& 2 ^ j = z at *
    have g1 : ((z : Int) == 0) = true := by rw [nz]; rfl
    have g2 : ((z : Int) != 0) = false := by rw [nz]; rfl
    have g4 : (z != 0) = false := by rw [nz]; rfl
    have g3 : (z == 0) = true := by rw [nz]; rfl
    clear AZ hbit BQ BT wp hi bd
    go_enter Tryz.func16, Tryz.ntmps16
    go_wp2_with fail
    refine C.out.mono ?_
    rintro e w1 ⟨rfl, k1⟩
    have K1 := Lib.hid k1
    clear k1
    go_wp2_with fail
    refine (CN.out _ K1.out).mono ?_
    rintro e w' ⟨rfl, rfl⟩
    go_wp2
    go_ret
    exact ⟨rfl, K1.out⟩
theorem must_any (va vb : Value) (l m : List LF) (k : Int) (w : World) (ha : LeavesAt w va l) (hb : LeavesAt w vb m) (oa : LsOk l) (ob : LsOk m) (na : l.length ≤ 100) (nb : m.length ≤ 100) (T : Tabs20 w) :
  Calls Tryz.prog 18 #[va, vb, .int .i64 k] w fun e w' => e = .returned (.bool (mustB l m k)) ∧ Kp w w' := by
 have C := Lib.hid (relations_any va vb l m w ha hb oa ob na nb T.1)
 have CB : mustB l m k = (relOk l m && (decide (relM l m ≠ 0) && decide (bits .andNot .i64 ((relM l m : Nat) : Int) k = 0))) := rfl
 have RE : relE l m = if relOk l m = true then 0 else 8 := rfl
 rw [CB]
 generalize relM l m = M at *
 cases ho : relOk l m with
 | false =>
  rw [ho] at RE
  rw [RE] at C
  simp only [if_neg Bool.false_ne_true] at C
  clear RE CB ho ha hb oa ob T
  go_enter Tryz.func18, Tryz.ntmps18
  go_wp2_with fail
  refine C.out.mono ?_
  rintro e w1 ⟨rfl, k1⟩
  have K1 := Lib.hid k1
  clear k1
  go_wp2
  go_ret
  exact ⟨rfl, K1.out⟩
 | true =>
  rw [ho] at RE
  rw [RE] at C
  simp only [if_true] at C
  clear RE CB ho ha hb oa ob T
  by_cases h0 : M = 0
  ·have e0 : (true && (decide (M ≠ 0) && decide (bits .andNot .i64 ((M : Nat) : Int) k = 0))) = false := by simp [h0]
   rw [e0]
   subst h0
   clear e0
   go_enter Tryz.func18, Tryz.ntmps18
   go_wp2_with fail
   refine C.out.mono ?_
   rintro e w1 ⟨rfl, k1⟩
   have K1 := Lib.hid k1
   clear k1
   go_wp2
   go_ret
   exact ⟨rfl, K1.out⟩
  ·have g1 : ((M : Int) == 0) = false := by simp; omega
   have g2 : ((M : Int) != 0) = true := by simp; omega
   have g3 : (M == 0) = false := by simp; omega
   have g5 : (M != 0) = true := by simp; omega
   have e0 : ∀ q : Bool, (true && (true && q)) = q := fun q => by simp
   rw [decide_eq_true (show M ≠ 0 from h0)]
   obtain ⟨q, hq⟩ : ∃ q : Bool, decide (bits .andNot .i64 ((M : Nat) : Int) k = 0) = q := ⟨_, rfl⟩
   rw [hq, e0]
   clear e0
   generalize hz : bits .andNot .i64 ((M : Nat) : Int) k = z at *
   have g4 : (z == 0) = q := by rw [← hq]; by_cases e : z = 0 <;> simp [e]
   clear h0 hq
   cases q with
   | true =>
    go_enter Tryz.func18, Tryz.ntmps18
    go_wp2_with fail
    refine C.out.mono ?_
    rintro e w1 ⟨rfl, k1⟩
    have K1 := Lib.hid k1
    clear k1
    go_wp2
    go_ret
    exact ⟨rfl, K1.out⟩
   | false =>
    go_enter Tryz.func18, Tryz.ntmps18
    go_wp2_with fail
    refine C.out.mono ?_
    rintro e w1 ⟨rfl, k1⟩
    have K1 := Lib.hid k1
    clear k1
    go_wp2
    go_ret
    exact ⟨rfl, K1.out⟩
def uniF (f : LF) : Int := 1 + if f.sp = false ∧ f.u ≠ 0 then sumR (nf f.a) else 0
def unitsN : List LF → Int
 | [] => 0
 | f :: l => uniF f + unitsN l
theorem unitsN_append (l m : List LF) : unitsN (l ++ m) = unitsN l + unitsN m := by
 induction l with
 | nil => simp [unitsN]
 | cons f l ih => simp only [List.cons_append, unitsN, ih]; omega
theorem unitsN_take {l : List LF} {k : Nat} (h : k < l.length) : unitsN (l.take (k + 1)) = unitsN (l.take k) + uniF (lat l k) := by
 rw [take_lat l k h, unitsN_append]
 simp [unitsN]
theorem sumN_bd (a : List R) (h : a.length ≤ 1000000) : 0 ≤ sumR (nf a) ∧ sumR (nf a) ≤ 2199023255553 := by
 obtain ⟨b1, b2⟩ := sumR_bd (nf a) (-1099511627776) (nf_sane a) (fun r t e => by have h := nf_sane a; rw [e] at h; exact (sane_head h).2.1) (by omega)
 omega
theorem uniF_bd (f : LF) (h : f.a.length ≤ 1000000) : 1 ≤ uniF f ∧ uniF f ≤ 2199023255554 := by
 have := sumN_bd f.a h
 unfold uniF
 split <;> omega
theorem unitsN_bd {l : List LF} (h : LsOk l) : 0 ≤ unitsN l ∧ unitsN l ≤ 2199023255554 * (l.length : Int) := by
 induction l with
 | nil => simp [unitsN]
 | cons f l ih =>
  have a := uniF_bd f (by have := (h f (by simp)).2.2.1; omega)
  have b := ih fun g hg => h g (by simp [hg])
  simp only [unitsN, List.length_cons]
  omega
theorem units20_any (v : Value) (l : List LF) (w : World) (hv : LeavesAt w v l) (hl : LsOk l) (hn : l.length ≤ 100) :
  Calls Tryz.prog 22 #[v] w fun e w' => e = .returned (.int .i64 (unitsN l)) ∧ Kp w w' := by
 obtain ⟨ad, cp, rfl⟩ := hv.slice
 have HV := Lib.hid hv
 have HL := Lib.hid hl
 have UT := Lib.hid (fun k (h : k < l.length) => unitsN_take (l := l) h)
 have UB := Lib.hid (fun k => unitsN_bd (l := l.take k) fun f hf => hl f (List.mem_of_mem_take hf))
 have UE := Lib.hid (show unitsN (l.take l.length) = unitsN l by rw [List.take_length])
 clear hv hl
 go_enter Tryz.func22, Tryz.ntmps22
 go_wp2
 go_loopw [3, 4] (fun n i wr => ∃ k : Nat, k ≤ l.length ∧ n = .int .i64 (unitsN (l.take k)) ∧ i = .int .i64 k ∧ Hid (Kp w wr)) (fun _ i _ => l.length - (intOf i).toNat)
 case atStart => exact ⟨0, Nat.zero_le _, rfl, rfl, Lib.hid (Kp.refl _)⟩
 case round =>
  obtain ⟨k, hk, rfl, rfl, J⟩ := hrel
  by_cases hlt : k < l.length
  ·have q1 : decide ((k : Int) < (l.length : Int)) = true := decide_eq_true (by omega)
   have ut := UT.out k hlt
   have b1 := UB.out k
   rw [List.length_take, Nat.min_eq_left (by omega)] at b1
   rcases HV.out.kp J.out with ⟨_, _, _, e⟩ | ⟨b0, off, cap, ev, hc, hmx, hx⟩
   ·rw [e] at hlt; simp at hlt
   cases ev
   obtain ⟨va, vb, d0, d1, d2, d3, ra, rb⟩ := hx k hlt
   have LOK := HL.out _ (lat_mem hlt)
   obtain ⟨f, hf⟩ : ∃ f, lat l k = f := ⟨_, rfl⟩
   rw [hf] at d0 d1 ra rb
   (try rw [hf] at LOK)
   obtain ⟨sp, u, a, b⟩ := f
   simp only at d0 d1 ra rb
   (try simp only at LOK)
   obtain ⟨aa, ca, rfl⟩ := ra.slice
   obtain ⟨ab, cb, rfl⟩ := rb.slice
   have HF := Lib.hid hf
   have z1 : (k : Int) < (l.length : Int) := by omega
   have z2 : (0 : Int) ≤ (k : Int) := by omega
   clear hx hc hmx hf
   have e1 : lat l k = ⟨sp, u, a, b⟩ := HF.out
   rw [e1] at ut
   have CC := Lib.hid (fun w1 (kk : Kp wr w1) => rcount_of _ (nf a) w1 (asR_any _ a w1 (ra.kp kk) LOK.1 (by have := LOK.2.2.1; omega)) (nf_sane a) (Nat.le_trans (nf_len a) (by have := LOK.2.2.1; omega)))
   have sb := sumN_bd a (by have := LOK.2.2.1; omega)
   have UT2 := Lib.hid ut
   generalize unitsN (l.take k) = n at *
   have wn : IntKind.i64.wrap (n + 1) = n + 1 := by rw [IntKind.wrap_i64]; omega
   have wm : IntKind.i64.wrap (n + 1 + sumR (nf a)) = n + 1 + sumR (nf a) := by rw [IntKind.wrap_i64]; omega
   obtain ⟨s, hs⟩ : ∃ s, sumR (nf a) = s := ⟨_, rfl⟩
   rw [hs] at CC sb wm
   have HS := Lib.hid hs
   clear hs
   clear ut e1 ra rb
   cases sp with
   | true =>
    have U3 := Lib.hid (show unitsN (l.take (k + 1)) = n + 1 by rw [UT2.out]; unfold uniF; rw [if_neg (by simp)]; omega)
    go_wp2
    go_roundw
    case rel => exact ⟨k + 1, by omega, by rw [U3.out], by go_num, J⟩
    case measure => simp [intOf]; omega
   | false =>
    by_cases hu : u = 0
    ·subst hu
     have U3 := Lib.hid (show unitsN (l.take (k + 1)) = n + 1 by rw [UT2.out]; unfold uniF; rw [if_neg (by simp)]; omega)
     go_wp2
     go_roundw
     case rel => exact ⟨k + 1, by omega, by rw [U3.out], by go_num, J⟩
     case measure => simp [intOf]; omega
    ·have g1 : (u == 0) = false := by simpa using hu
     have g2 : (!(u == 0)) = true := by rw [g1]; rfl
     have U3 := Lib.hid (show unitsN (l.take (k + 1)) = n + 1 + sumR (nf a) by rw [UT2.out]; unfold uniF; rw [if_pos ⟨rfl, hu⟩]; simp only; omega)
     go_wp2_with fail
     refine (CC.out _ (Kp.refl _)).mono ?_
     rintro e w2 ⟨rfl, k2⟩
     have J2 := Lib.hid (J.out.trans k2)
     clear k2
     go_wp2
     go_roundw
     case rel => exact ⟨k + 1, by omega, by rw [U3.out, HS.out], by go_num, J2⟩
     case measure => simp [intOf]; omega
  ·have q1 : decide ((k : Int) < (l.length : Int)) = false := decide_eq_false (by omega)
   have ek : k = l.length := by omega
   subst ek
   rw [UE.out]
   go_wp2
   go_ret
   exact ⟨rfl, J.out⟩
theorem any_has (l : List LF) : anyB l = true ↔ ∃ S T, hasP l S T := by
 unfold anyB hasP hasL
 simp only [List.any_eq_true]
 constructor
 ·rintro ⟨f, hf, h⟩
  unfold fullB at h
  obtain ⟨⟨t, m⟩, _⟩ := days_met (famR_ok f) (by simpa using h)
  exact ⟨_, t, f, hf, m⟩
 ·rintro ⟨S, T, f, hf, h⟩
  exact ⟨f, hf, full_of h⟩
theorem rel_range (S T S' T' : Int) : 0 ≤ rel S T S' T' ∧ rel S T S' T' ≤ 12 := by
 unfold rel
 (repeat' split) <;> omega
theorem relM_zero {l m : List LF} (h : relOk l m = true) : relM l m = 0 ↔ ¬ (anyB l = true ∧ anyB m = true) := by
 rw [any_has, any_has]
 constructor
 ·rintro e ⟨⟨S, T, a⟩, S', T', b⟩
  have rr := rel_range S T S' T'
  have := (relM_bit h (r := (rel S T S' T').toNat) (by omega)).2 ⟨S, T, S', T', a, b, by omega⟩
  rw [e] at this
  simp at this
 ·intro n
  refine mask_ext (relM_lt _ _) (by decide) fun r hr => ?_
  rw [relM_bit h hr]
  constructor
  ·rintro ⟨S, T, S', T', a, b, _⟩
   exact absurd ⟨⟨S, T, a⟩, S', T', b⟩ n
  ·intro q
   simp at q
theorem canB_bit (l m : List LF) (j : Nat) (hj : j ≤ 12) : canB l m (j : Int) = (relM l m).testBit j := by
 unfold canB
 cases h : relOk l m with
 | false =>
  have : relM l m = 0 := if_neg (by rw [h]; simp)
  rw [this]
  simp
 | true =>
  rw [show invB (j : Int) = true from decide_eq_true (by omega)]
  simp
theorem bits_out {M : Nat} (hM : M < 8192) (k : Int) : bits .andNot .i64 (M : Int) k = 0 ↔ ∀ j, j ≤ 12 → M.testBit j = true → k / 2 ^ j % 2 = 1 := by
 have key : (BitVec.ofInt 64 (M : Int) &&& ~~~ BitVec.ofInt 64 k).toNat = 0 ↔ ∀ j, j ≤ 12 → M.testBit j = true → k / 2 ^ j % 2 = 1 := by
  have bit : ∀ j, j ≤ 12 → ((BitVec.ofInt 64 k).getLsbD j = true ↔ k / 2 ^ j % 2 = 1) := by
   intro j hj
   rw [← BitVec.testBit_toNat, BitVec.toNat_ofInt, Nat.testBit_eq_decide_div_mod_eq, decide_eq_true_iff]
   obtain rfl | rfl | rfl | rfl | rfl | rfl | rfl | rfl | rfl | rfl | rfl | rfl | rfl : j = 0 ∨ j = 1 ∨ j = 2 ∨ j = 3 ∨ j = 4 ∨ j = 5 ∨ j = 6 ∨ j = 7 ∨ j = 8 ∨ j = 9 ∨ j = 10 ∨ j = 11 ∨ j = 12 := by omega
   all_goals (simp only [show ((2 ^ 64 : Nat) : Int) = 18446744073709551616 from rfl, Nat.reducePow, Int.reducePow, Int.pow_zero]; omega)
  have mb : ∀ j, (BitVec.ofInt 64 (M : Int)).getLsbD j = M.testBit j := by
   intro j
   rw [← BitVec.testBit_toNat, BitVec.toNat_ofInt]
   congr 1
   omega
  constructor
  ·intro h j hj hb
   have h2 : BitVec.ofInt 64 (M : Int) &&& ~~~ BitVec.ofInt 64 k = 0#64 := BitVec.eq_of_toNat_eq (by rw [h]; rfl)
   have h3 := congrArg (fun x => x.getLsbD j) h2
   simp only [BitVec.getLsbD_and, BitVec.getLsbD_not, mb, hb, BitVec.getLsbD_zero, Bool.true_and] at h3
   rw [← bit j hj]
   have h4 : decide (j < 64) = true := decide_eq_true (by omega)
   rw [h4] at h3
   simpa using h3
  ·intro h
   have h2 : BitVec.ofInt 64 (M : Int) &&& ~~~ BitVec.ofInt 64 k = 0#64 := by
    apply BitVec.eq_of_getLsbD_eq
    intro j hj
    simp only [BitVec.getLsbD_and, BitVec.getLsbD_not, mb, BitVec.getLsbD_zero]
    by_cases c : j ≤ 12
    ·cases hb : M.testBit j with
     | false => simp
     | true =>
      rw [(bit j c).2 (h j c hb)]
      simp
    ·have : M.testBit j = false := by
      have p : 8192 ≤ 2 ^ j := by
       have : 2 ^ 13 ≤ 2 ^ j := Nat.pow_le_pow_right (by decide) (by omega)
       omega
      exact Nat.testBit_lt_two_pow (by omega)
     rw [this]
     simp
   rw [h2]
   rfl
 have lt : (BitVec.ofInt 64 (M : Int) &&& ~~~ BitVec.ofInt 64 k).toNat < 8192 := by
  rw [BitVec.toNat_and, BitVec.toNat_ofInt]
  have : ((M : Int) % ((2 ^ 64 : Nat) : Int)).toNat = M := by omega
  rw [this]
  exact Nat.lt_of_le_of_lt Nat.and_le_left hM
 rw [← key]
 show IntKind.i64.wrap ((BitVec.ofInt 64 (M : Int) &&& ~~~ BitVec.ofInt 64 k).toNat : Nat) = 0 ↔ _
 generalize (BitVec.ofInt 64 (M : Int) &&& ~~~ BitVec.ofInt 64 k).toNat = z at *
 rw [IntKind.wrap_i64]
 omega
end Go.Proofs.YtjdnejglapnbbaaGreatDoor
