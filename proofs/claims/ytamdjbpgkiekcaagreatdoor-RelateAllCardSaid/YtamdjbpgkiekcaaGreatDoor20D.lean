import Derived.Test.YtamdjbpgkiekcaaGreatDoorGRlF
import Derived.Test.YtamdjbpgkiekcaaGreatDoorGEnv
import Derived.Test.YtamdjbpgkiekcaaGreatDoorGLeafA
namespace Go.Proofs.YtamdjbpgkiekcaaGreatDoor
open Go.RowKit
set_option linter.unusedVariables false
set_option linter.unusedSimpArgs false
theorem t20_and1 (n : Int) : bits .and .i64 n 1 = n % 2 := by
 have h := pow_aux n 1 0 (by decide)
 rw [h, IntKind.wrap_i64]
 simp
 omega
theorem t20_bit {m x : Nat} {q : Bool} (h : m.testBit x = q) : (bits .and .i64 ((m : Int) / 2 ^ x) 1 == 1) = q := by
 rw [t20_and1]
 rw [Nat.testBit_eq_decide_div_mod_eq] at h
 have : ((m / 2 ^ x % 2 : Nat) : Int) = (m : Int) / 2 ^ x % 2 := by push_cast; rfl
 cases q with
 | true =>
  rw [decide_eq_true_iff] at h
  rw [← this, h]
  rfl
 | false =>
  rw [decide_eq_false_iff_not] at h
  have e : m / 2 ^ x % 2 = 0 := by omega
  rw [← this, e]
  rfl
set_option maxHeartbeats 16000000 in
set_option maxRecDepth 100000 in
theorem dhas_any (v : Value) (l : List LF) (S E : Int) (w : World) (hv : LeavesAt w v l) (hl : LsOk l) (T : Tabs w) (b1 : -9223372036854775808 ≤ S) (b2 : S ≤ 9223372036854775807) (b3 : -9223372036854775808 ≤ E) (b4 : E ≤ 9223372036854775807) :
  Calls Tryz.prog 21 #[v, .agg #[.int .i64 S, .int .i64 E]] w fun e w' => e = .returned (.bool (hasL l S E)) ∧ Kp w w' := by
 have hm := hv.len
 unfold maxLen at hm
 obtain ⟨ad, cp, rfl⟩ := hv.slice
 obtain ⟨W0, hW⟩ : ∃ x, x = w.alloc (.cells #[.int .i64 S, .int .i64 E] 36) := ⟨_, rfl⟩
 have k0 : Kp w W0 := by rw [hW]; exact Kp.alloc _ _
 have g0 : W0.heap[w.heap.size]? = some (.cells #[.int .i64 S, .int .i64 E] 36 (0, 0)) := by rw [hW]; exact heap_at _ _ _ rfl
 have HB := Lib.hid (fun w' (kq : Kp W0 w') => row2 (heap_block kq g0))
 have HV := Lib.hid (hv.kp k0)
 have HL := Lib.hid hl
 have TT := Lib.hid (T.kp k0)
 have NO := Lib.hid (fun h => hasL_no (l := l) (S := S) (T := E) h)
 have YES := Lib.hid (fun k (h : k < l.length) g => hasL_yes (l := l) (S := S) (T := E) h g)
 have K0 := Lib.hid k0
 have HW := Lib.hid hW
 clear hv hl T k0 g0 hW
 generalize hasL l S E = r at *
 go_enter Tryz.func21, Tryz.ntmps21
 go_wp2_with fail
 rw [← HW.out]
 go_loopw [9] (fun i wr => ∃ k : Nat, k ≤ l.length ∧ i = .int .i64 k ∧ Hid (∀ i, i < k → hasF (famR (lat l i)) S E = false) ∧ Hid (Kp W0 wr)) (fun i _ => l.length - (intOf i).toNat)
 case atStart => exact ⟨0, Nat.zero_le _, rfl, Lib.hid (fun i h => by omega), Lib.hid (Kp.refl _)⟩
 case round =>
  obtain ⟨k, hk, rfl, FA, J⟩ := hrel
  by_cases hlt : k < l.length
  ·have q1 : decide ((k : Int) < (l.length : Int)) = true := decide_eq_true (by omega)
   rcases HV.out.kp J.out with ⟨_, _, _, e⟩ | ⟨b0, off, cap, ev, hc, hmx, hx⟩
   ·rw [e] at hlt; simp at hlt
   cases ev
   obtain ⟨va, vb, d0, d1, d2, d3, ra, rb⟩ := hx k hlt
   have LOK := HL.out _ (lat_mem hlt)
   obtain ⟨f, hf⟩ : ∃ f, lat l k = f := ⟨_, rfl⟩
   rw [hf] at d0 d1 ra rb
   (try rw [hf] at LOK)
   obtain ⟨sp, u, a, b⟩ := f
   simp only at d0 d1 ra rb
   (try simp only at LOK)
   obtain ⟨aa, ca, rfl⟩ := ra.slice
   obtain ⟨ab, cb, rfl⟩ := rb.slice
   have HF := Lib.hid hf
   have z1 : (k : Int) < (l.length : Int) := by omega
   have z2 : (0 : Int) ≤ (k : Int) := by omega
   clear hx hc hmx hf
   have C := Lib.hid (fun w1 (kk : Kp wr w1) => leafHas_any ⟨sp, u, a, b⟩ _ _ S E w1 ⟨ra.kp kk, rb.kp kk, LOK.1, LOK.2.1, LOK.2.2.1, LOK.2.2.2⟩ (TT.out.kp (J.out.trans kk)) b1 b2 b3 b4)
   simp only [leafV] at C
   have N := Lib.hid (fun (g : hasF (famR ⟨sp, u, a, b⟩) S E = true) => YES.out k hlt (show hasF (famR (lat l k)) S E = true by rw [HF.out]; exact g))
   have Y := Lib.hid (fun (g : hasF (famR ⟨sp, u, a, b⟩) S E = false) => (by rw [HF.out]; exact g : hasF (famR (lat l k)) S E = false))
   generalize hasF (famR ⟨sp, u, a, b⟩) S E = eb at *
   obtain ⟨V, hV⟩ : ∃ x, x = wr.alloc (.cells #[.bool sp, .int .i64 u, .slice aa a.length ca, .slice ab b.length cb] 47) := ⟨_, rfl⟩
   have kv : Kp wr V := by rw [hV]; exact Kp.alloc _ _
   have gv : V.heap[wr.heap.size]? = some (.cells #[.bool sp, .int .i64 u, .slice aa a.length ca, .slice ab b.length cb] 47 (0, 0)) := by rw [hV]; exact heap_at _ _ _ rfl
   obtain ⟨e0, e1, e2, e3⟩ := row4 gv
   obtain ⟨s0, s1⟩ := HB.out V (J.out.trans kv)
   have KV := Lib.hid kv
   have HVV := Lib.hid hV
   clear ra rb YES hV kv gv
   go_upto_region 4 with fail
   rw [← HVV.out]
   clear HVV d0 d1 d2 d3
   cases eb with
   | true =>
    have hr := N.out (by first | rfl | trivial)
    subst hr
    go_wp2_with fail
    refine (C.out _ KV.out).mono ?_
    rintro e w1 ⟨rfl, kk⟩
    have J1 := Lib.hid (K0.out.trans (J.out.trans (KV.out.trans kk)))
    clear kk e0 e1 e2 e3 s0 s1
    go_wp2
    go_ret
    exact ⟨rfl, J1.out⟩
   | false =>
    go_wp2_with fail
    refine (C.out _ KV.out).mono ?_
    rintro e w1 ⟨rfl, kk⟩
    have J1 := Lib.hid (J.out.trans (KV.out.trans kk))
    clear kk e0 e1 e2 e3 s0 s1
    go_wp2
    go_roundw
    case rel => exact ⟨k + 1, by omega, by go_num, Lib.hid (fun i hi => by
     by_cases c : i < k
     ·exact FA.out i c
     ·obtain rfl : i = k := by omega
      exact Y.out (by first | rfl | trivial)), J1⟩
    case measure => simp [intOf]; omega
  ·have q1 : decide ((k : Int) < (l.length : Int)) = false := decide_eq_false (by omega)
   obtain rfl : k = l.length := by omega
   have hr := NO.out FA.out
   subst hr
   go_wp2
   go_ret
   exact ⟨rfl, K0.out.trans J.out⟩
set_option maxHeartbeats 16000000 in
set_option maxRecDepth 100000 in
theorem relateSound_walk (vl : Value) (l : List LF) (vm : Value) (m : List LF) (pS pE : Int) (qS qE : Int) (w : World) (rl : LeavesAt w vl l) (gl : ∀ f ∈ l, LeafG f) (rm : LeavesAt w vm m) (gm : ∀ f ∈ m, LeafG f) (hp1 : -9223372036854775808 ≤ pS) (hp2 : pS ≤ 9223372036854775807) (hp3 : -9223372036854775808 ≤ pE) (hp4 : pE ≤ 9223372036854775807) (hq1 : -9223372036854775808 ≤ qS) (hq2 : qS ≤ 9223372036854775807) (hq3 : -9223372036854775808 ≤ qE) (hq4 : qE ≤ 9223372036854775807) (T : Tabs20 w) :
  Calls Tryz.prog 5 #[vl, vm, .agg #[.int .i64 pS, .int .i64 pE], .agg #[.int .i64 qS, .int .i64 qE]] w fun e w' => e = .returned (.bool true) ∧ Kp w w' := by
 have CA := Lib.hid (fun w1 (k : Kp w w1) => awake20 w1 (T.kp k))
 have CF := Lib.hid (fun w1 (k : Kp w w1) => few20_any _ l w1 (rl.kp k) gl)
 have CG := Lib.hid (fun w1 (k : Kp w w1) => few20_any _ m w1 (rm.kp k) gm)
 have OKL := Lib.hid (fun h => few20_ok (l := l) h gl)
 have OKM := Lib.hid (fun h => few20_ok (l := m) h gm)
 generalize few20 l = fl at *
 generalize few20 m = fm at *
 obtain ⟨adl, cal, rfl⟩ := rl.slice
 obtain ⟨adm, cam, rfl⟩ := rm.slice
 obtain ⟨W0, hW⟩ : ∃ W0, W0 = (w.alloc (.cells #[.int .i64 pS, .int .i64 pE] 36)).alloc (.cells #[.int .i64 qS, .int .i64 qE] 36) := ⟨_, rfl⟩
 have K00 := Lib.hid (show Kp w W0 by rw [hW]; exact (Kp.alloc _ _).trans (Kp.alloc _ _))
 have HB := Lib.hid (fun w1 (k : Kp W0 w1) => show w1.cell? ⟨w.heap.size, 0, none⟩ = some (.int .i64 pS) ∧ w1.cell? ⟨w.heap.size, 1, none⟩ = some (.int .i64 pE) ∧ w1.cell? ⟨w.heap.size + 1, 0, none⟩ = some (.int .i64 qS) ∧ w1.cell? ⟨w.heap.size + 1, 1, none⟩ = some (.int .i64 qE) from ⟨cell_up k (show W0.cell? ⟨w.heap.size, 0, none⟩ = some (.int .i64 pS) by rw [hW]; simp), cell_up k (show W0.cell? ⟨w.heap.size, 1, none⟩ = some (.int .i64 pE) by rw [hW]; simp), cell_up k (show W0.cell? ⟨w.heap.size + 1, 0, none⟩ = some (.int .i64 qS) by rw [hW]; simp), cell_up k (show W0.cell? ⟨w.heap.size + 1, 1, none⟩ = some (.int .i64 qE) by rw [hW]; simp)⟩)
 obtain ⟨c0, c1, c2, c3⟩ := HB.out W0 (Kp.refl _)
 have K0 := Lib.hid (Kp.refl W0)
 have HW := Lib.hid hW
 clear hW
 cases fl with
 | false =>
  clear rl rm T gl gm OKL OKM
  go_enter Tryz.func5, Tryz.ntmps5
  go_wp2_with fail
  rw [← HW.out]
  refine (CA.out _ (K00.out.trans (by first | with_reducible exact K0.out | with_reducible exact K0.out.trans (Kp.alloc _ _) | with_reducible exact (K0.out.trans (Kp.alloc _ _)).trans (Kp.alloc _ _) | with_reducible exact ((K0.out.trans (Kp.alloc _ _)).trans (Kp.alloc _ _)).trans (Kp.alloc _ _) | with_reducible exact K0.out.trans (Kp.drew _) | with_reducible exact K0.out.trans (Kp.drewN _ _)))).mono ?_
  rintro e w1 ⟨rfl, kk⟩
  have K1 := Lib.hid ((show Kp W0 _ from (by first | with_reducible exact K0.out | with_reducible exact K0.out.trans (Kp.alloc _ _) | with_reducible exact (K0.out.trans (Kp.alloc _ _)).trans (Kp.alloc _ _) | with_reducible exact ((K0.out.trans (Kp.alloc _ _)).trans (Kp.alloc _ _)).trans (Kp.alloc _ _) | with_reducible exact K0.out.trans (Kp.drew _) | with_reducible exact K0.out.trans (Kp.drewN _ _))).trans kk)
  clear kk
  clear c0 c1 c2 c3
  obtain ⟨c0, c1, c2, c3⟩ := HB.out w1 K1.out
  go_wp2_with fail
  refine (CF.out _ (K00.out.trans (by first | with_reducible exact K1.out | with_reducible exact K1.out.trans (Kp.alloc _ _) | with_reducible exact (K1.out.trans (Kp.alloc _ _)).trans (Kp.alloc _ _) | with_reducible exact ((K1.out.trans (Kp.alloc _ _)).trans (Kp.alloc _ _)).trans (Kp.alloc _ _) | with_reducible exact K1.out.trans (Kp.drew _) | with_reducible exact K1.out.trans (Kp.drewN _ _)))).mono ?_
  rintro e w2 ⟨rfl, kk⟩
  have K2 := Lib.hid ((show Kp W0 _ from (by first | with_reducible exact K1.out | with_reducible exact K1.out.trans (Kp.alloc _ _) | with_reducible exact (K1.out.trans (Kp.alloc _ _)).trans (Kp.alloc _ _) | with_reducible exact ((K1.out.trans (Kp.alloc _ _)).trans (Kp.alloc _ _)).trans (Kp.alloc _ _) | with_reducible exact K1.out.trans (Kp.drew _) | with_reducible exact K1.out.trans (Kp.drewN _ _))).trans kk)
  clear kk
  clear c0 c1 c2 c3
  obtain ⟨c0, c1, c2, c3⟩ := HB.out w2 K2.out
  go_wp2
  go_ret
  exact ⟨rfl, K00.out.trans K2.out⟩
 | true =>
  obtain ⟨ol, nl⟩ := OKL.out (by first | rfl | trivial)
  cases fm with
  | false =>
   clear rl rm T gl gm OKL OKM ol nl
   go_enter Tryz.func5, Tryz.ntmps5
   go_wp2_with fail
   rw [← HW.out]
   refine (CA.out _ (K00.out.trans (by first | with_reducible exact K0.out | with_reducible exact K0.out.trans (Kp.alloc _ _) | with_reducible exact (K0.out.trans (Kp.alloc _ _)).trans (Kp.alloc _ _) | with_reducible exact ((K0.out.trans (Kp.alloc _ _)).trans (Kp.alloc _ _)).trans (Kp.alloc _ _) | with_reducible exact K0.out.trans (Kp.drew _) | with_reducible exact K0.out.trans (Kp.drewN _ _)))).mono ?_
   rintro e w1 ⟨rfl, kk⟩
   have K1 := Lib.hid ((show Kp W0 _ from (by first | with_reducible exact K0.out | with_reducible exact K0.out.trans (Kp.alloc _ _) | with_reducible exact (K0.out.trans (Kp.alloc _ _)).trans (Kp.alloc _ _) | with_reducible exact ((K0.out.trans (Kp.alloc _ _)).trans (Kp.alloc _ _)).trans (Kp.alloc _ _) | with_reducible exact K0.out.trans (Kp.drew _) | with_reducible exact K0.out.trans (Kp.drewN _ _))).trans kk)
   clear kk
   clear c0 c1 c2 c3
   obtain ⟨c0, c1, c2, c3⟩ := HB.out w1 K1.out
   go_wp2_with fail
   refine (CF.out _ (K00.out.trans (by first | with_reducible exact K1.out | with_reducible exact K1.out.trans (Kp.alloc _ _) | with_reducible exact (K1.out.trans (Kp.alloc _ _)).trans (Kp.alloc _ _) | with_reducible exact ((K1.out.trans (Kp.alloc _ _)).trans (Kp.alloc _ _)).trans (Kp.alloc _ _) | with_reducible exact K1.out.trans (Kp.drew _) | with_reducible exact K1.out.trans (Kp.drewN _ _)))).mono ?_
   rintro e w2 ⟨rfl, kk⟩
   have K2 := Lib.hid ((show Kp W0 _ from (by first | with_reducible exact K1.out | with_reducible exact K1.out.trans (Kp.alloc _ _) | with_reducible exact (K1.out.trans (Kp.alloc _ _)).trans (Kp.alloc _ _) | with_reducible exact ((K1.out.trans (Kp.alloc _ _)).trans (Kp.alloc _ _)).trans (Kp.alloc _ _) | with_reducible exact K1.out.trans (Kp.drew _) | with_reducible exact K1.out.trans (Kp.drewN _ _))).trans kk)
   clear kk
   clear c0 c1 c2 c3
   obtain ⟨c0, c1, c2, c3⟩ := HB.out w2 K2.out
   go_wp2_with fail
   refine (CG.out _ (K00.out.trans (by first | with_reducible exact K2.out | with_reducible exact K2.out.trans (Kp.alloc _ _) | with_reducible exact (K2.out.trans (Kp.alloc _ _)).trans (Kp.alloc _ _) | with_reducible exact ((K2.out.trans (Kp.alloc _ _)).trans (Kp.alloc _ _)).trans (Kp.alloc _ _) | with_reducible exact K2.out.trans (Kp.drew _) | with_reducible exact K2.out.trans (Kp.drewN _ _)))).mono ?_
   rintro e w3 ⟨rfl, kk⟩
   have K3 := Lib.hid ((show Kp W0 _ from (by first | with_reducible exact K2.out | with_reducible exact K2.out.trans (Kp.alloc _ _) | with_reducible exact (K2.out.trans (Kp.alloc _ _)).trans (Kp.alloc _ _) | with_reducible exact ((K2.out.trans (Kp.alloc _ _)).trans (Kp.alloc _ _)).trans (Kp.alloc _ _) | with_reducible exact K2.out.trans (Kp.drew _) | with_reducible exact K2.out.trans (Kp.drewN _ _))).trans kk)
   clear kk
   clear c0 c1 c2 c3
   obtain ⟨c0, c1, c2, c3⟩ := HB.out w3 K3.out
   go_wp2
   go_ret
   exact ⟨rfl, K00.out.trans K3.out⟩
  | true =>
   obtain ⟨om, nm⟩ := OKM.out (by first | rfl | trivial)
   have C1 := Lib.hid (fun w1 (k : Kp w w1) => relations_any _ _ l m w1 (rl.kp k) (rm.kp k) ol om (by omega) (by omega) (T.kp k).1)
   have D1 := Lib.hid (fun w1 (k : Kp w w1) => dhas_any _ l pS pE w1 (rl.kp k) ol (T.kp k).1 hp1 hp2 hp3 hp4)
   have D2 := Lib.hid (fun w1 (k : Kp w w1) => dhas_any _ m qS qE w1 (rm.kp k) om (T.kp k).1 hq1 hq2 hq3 hq4)
   have CO := Lib.hid (fun w1 => aof_any pS pE qS qE w1 hp1 hp2 hp3 hp4 hq1 hq2 hq3 hq4)
   have CC := Lib.hid (fun r w1 (k : Kp w w1) => can_any _ _ l m r w1 (rl.kp k) (rm.kp k) ol om (by omega) (by omega) (T.kp k))
   have RE : relE l m = if relOk l m = true then 0 else 8 := rfl
   have M0 : relOk l m = false → relM l m = 0 := fun h => if_neg (by rw [h]; simp)
   have BT : relOk l m = true → hasL l pS pE = true → hasL m qS qE = true → ivB pS pE qS qE = true ∧ relV pS pE qS qE = rel pS pE qS qE ∧ (relM l m).testBit (rel pS pE qS qE).toNat = true ∧ canB l m (rel pS pE qS qE) = true := fun h1 h2 h3 => by
    have a := hasP_ok l _ _ h2
    have b := hasP_ok m _ _ h3
    have iv : ivB pS pE qS qE = true := decide_eq_true (by omega)
    have rr := rel_bd pS pE qS qE
    have t := (relM_bit h1 (r := (rel pS pE qS qE).toNat) (by omega)).2 ⟨pS, pE, qS, qE, h2, h3, by omega⟩
    refine ⟨iv, by unfold relV; rw [iv]; rfl, t, ?_⟩
    unfold canB
    rw [h1, t, show invB (rel pS pE qS qE) = true from decide_eq_true rr]
    rfl
   have RB := rel_bd pS pE qS qE
   clear rl rm T gl gm OKL OKM ol nl om nm
   cases ho : relOk l m with
   | false =>
    have m0 := M0 ho
    rw [ho, if_neg Bool.false_ne_true] at RE
    rw [m0, RE] at C1
    clear M0 BT RE ho m0 RB
    go_enter Tryz.func5, Tryz.ntmps5
    go_wp2_with fail
    rw [← HW.out]
    refine (CA.out _ (K00.out.trans (by first | with_reducible exact K0.out | with_reducible exact K0.out.trans (Kp.alloc _ _) | with_reducible exact (K0.out.trans (Kp.alloc _ _)).trans (Kp.alloc _ _) | with_reducible exact ((K0.out.trans (Kp.alloc _ _)).trans (Kp.alloc _ _)).trans (Kp.alloc _ _) | with_reducible exact K0.out.trans (Kp.drew _) | with_reducible exact K0.out.trans (Kp.drewN _ _)))).mono ?_
    rintro e w1 ⟨rfl, kk⟩
    have K1 := Lib.hid ((show Kp W0 _ from (by first | with_reducible exact K0.out | with_reducible exact K0.out.trans (Kp.alloc _ _) | with_reducible exact (K0.out.trans (Kp.alloc _ _)).trans (Kp.alloc _ _) | with_reducible exact ((K0.out.trans (Kp.alloc _ _)).trans (Kp.alloc _ _)).trans (Kp.alloc _ _) | with_reducible exact K0.out.trans (Kp.drew _) | with_reducible exact K0.out.trans (Kp.drewN _ _))).trans kk)
    clear kk
    clear c0 c1 c2 c3
    obtain ⟨c0, c1, c2, c3⟩ := HB.out w1 K1.out
    go_wp2_with fail
    refine (CF.out _ (K00.out.trans (by first | with_reducible exact K1.out | with_reducible exact K1.out.trans (Kp.alloc _ _) | with_reducible exact (K1.out.trans (Kp.alloc _ _)).trans (Kp.alloc _ _) | with_reducible exact ((K1.out.trans (Kp.alloc _ _)).trans (Kp.alloc _ _)).trans (Kp.alloc _ _) | with_reducible exact K1.out.trans (Kp.drew _) | with_reducible exact K1.out.trans (Kp.drewN _ _)))).mono ?_
    rintro e w2 ⟨rfl, kk⟩
    have K2 := Lib.hid ((show Kp W0 _ from (by first | with_reducible exact K1.out | with_reducible exact K1.out.trans (Kp.alloc _ _) | with_reducible exact (K1.out.trans (Kp.alloc _ _)).trans (Kp.alloc _ _) | with_reducible exact ((K1.out.trans (Kp.alloc _ _)).trans (Kp.alloc _ _)).trans (Kp.alloc _ _) | with_reducible exact K1.out.trans (Kp.drew _) | with_reducible exact K1.out.trans (Kp.drewN _ _))).trans kk)
    clear kk
    clear c0 c1 c2 c3
    obtain ⟨c0, c1, c2, c3⟩ := HB.out w2 K2.out
    go_wp2_with fail
    refine (CG.out _ (K00.out.trans (by first | with_reducible exact K2.out | with_reducible exact K2.out.trans (Kp.alloc _ _) | with_reducible exact (K2.out.trans (Kp.alloc _ _)).trans (Kp.alloc _ _) | with_reducible exact ((K2.out.trans (Kp.alloc _ _)).trans (Kp.alloc _ _)).trans (Kp.alloc _ _) | with_reducible exact K2.out.trans (Kp.drew _) | with_reducible exact K2.out.trans (Kp.drewN _ _)))).mono ?_
    rintro e w3 ⟨rfl, kk⟩
    have K3 := Lib.hid ((show Kp W0 _ from (by first | with_reducible exact K2.out | with_reducible exact K2.out.trans (Kp.alloc _ _) | with_reducible exact (K2.out.trans (Kp.alloc _ _)).trans (Kp.alloc _ _) | with_reducible exact ((K2.out.trans (Kp.alloc _ _)).trans (Kp.alloc _ _)).trans (Kp.alloc _ _) | with_reducible exact K2.out.trans (Kp.drew _) | with_reducible exact K2.out.trans (Kp.drewN _ _))).trans kk)
    clear kk
    clear c0 c1 c2 c3
    obtain ⟨c0, c1, c2, c3⟩ := HB.out w3 K3.out
    go_wp2_with fail
    refine (C1.out _ (K00.out.trans (by first | with_reducible exact K3.out | with_reducible exact K3.out.trans (Kp.alloc _ _) | with_reducible exact (K3.out.trans (Kp.alloc _ _)).trans (Kp.alloc _ _) | with_reducible exact ((K3.out.trans (Kp.alloc _ _)).trans (Kp.alloc _ _)).trans (Kp.alloc _ _) | with_reducible exact K3.out.trans (Kp.drew _) | with_reducible exact K3.out.trans (Kp.drewN _ _)))).mono ?_
    rintro e w4 ⟨rfl, kk⟩
    have K4 := Lib.hid ((show Kp W0 _ from (by first | with_reducible exact K3.out | with_reducible exact K3.out.trans (Kp.alloc _ _) | with_reducible exact (K3.out.trans (Kp.alloc _ _)).trans (Kp.alloc _ _) | with_reducible exact ((K3.out.trans (Kp.alloc _ _)).trans (Kp.alloc _ _)).trans (Kp.alloc _ _) | with_reducible exact K3.out.trans (Kp.drew _) | with_reducible exact K3.out.trans (Kp.drewN _ _))).trans kk)
    clear kk
    clear c0 c1 c2 c3
    obtain ⟨c0, c1, c2, c3⟩ := HB.out w4 K4.out
    go_wp2
    go_ret
    exact ⟨rfl, K00.out.trans K4.out⟩
   | true =>
    rw [ho, if_pos rfl] at RE
    rw [RE] at C1
    have BT2 := BT ho
    generalize hasL l pS pE = x at *
    generalize hasL m qS qE = y at *
    clear M0 BT RE ho
    cases x with
    | false =>
     clear BT2 RB
     generalize relM l m = M at *
     go_enter Tryz.func5, Tryz.ntmps5
     go_wp2_with fail
     rw [← HW.out]
     refine (CA.out _ (K00.out.trans (by first | with_reducible exact K0.out | with_reducible exact K0.out.trans (Kp.alloc _ _) | with_reducible exact (K0.out.trans (Kp.alloc _ _)).trans (Kp.alloc _ _) | with_reducible exact ((K0.out.trans (Kp.alloc _ _)).trans (Kp.alloc _ _)).trans (Kp.alloc _ _) | with_reducible exact K0.out.trans (Kp.drew _) | with_reducible exact K0.out.trans (Kp.drewN _ _)))).mono ?_
     rintro e w1 ⟨rfl, kk⟩
     have K1 := Lib.hid ((show Kp W0 _ from (by first | with_reducible exact K0.out | with_reducible exact K0.out.trans (Kp.alloc _ _) | with_reducible exact (K0.out.trans (Kp.alloc _ _)).trans (Kp.alloc _ _) | with_reducible exact ((K0.out.trans (Kp.alloc _ _)).trans (Kp.alloc _ _)).trans (Kp.alloc _ _) | with_reducible exact K0.out.trans (Kp.drew _) | with_reducible exact K0.out.trans (Kp.drewN _ _))).trans kk)
     clear kk
     clear c0 c1 c2 c3
     obtain ⟨c0, c1, c2, c3⟩ := HB.out w1 K1.out
     go_wp2_with fail
     refine (CF.out _ (K00.out.trans (by first | with_reducible exact K1.out | with_reducible exact K1.out.trans (Kp.alloc _ _) | with_reducible exact (K1.out.trans (Kp.alloc _ _)).trans (Kp.alloc _ _) | with_reducible exact ((K1.out.trans (Kp.alloc _ _)).trans (Kp.alloc _ _)).trans (Kp.alloc _ _) | with_reducible exact K1.out.trans (Kp.drew _) | with_reducible exact K1.out.trans (Kp.drewN _ _)))).mono ?_
     rintro e w2 ⟨rfl, kk⟩
     have K2 := Lib.hid ((show Kp W0 _ from (by first | with_reducible exact K1.out | with_reducible exact K1.out.trans (Kp.alloc _ _) | with_reducible exact (K1.out.trans (Kp.alloc _ _)).trans (Kp.alloc _ _) | with_reducible exact ((K1.out.trans (Kp.alloc _ _)).trans (Kp.alloc _ _)).trans (Kp.alloc _ _) | with_reducible exact K1.out.trans (Kp.drew _) | with_reducible exact K1.out.trans (Kp.drewN _ _))).trans kk)
     clear kk
     clear c0 c1 c2 c3
     obtain ⟨c0, c1, c2, c3⟩ := HB.out w2 K2.out
     go_wp2_with fail
     refine (CG.out _ (K00.out.trans (by first | with_reducible exact K2.out | with_reducible exact K2.out.trans (Kp.alloc _ _) | with_reducible exact (K2.out.trans (Kp.alloc _ _)).trans (Kp.alloc _ _) | with_reducible exact ((K2.out.trans (Kp.alloc _ _)).trans (Kp.alloc _ _)).trans (Kp.alloc _ _) | with_reducible exact K2.out.trans (Kp.drew _) | with_reducible exact K2.out.trans (Kp.drewN _ _)))).mono ?_
     rintro e w3 ⟨rfl, kk⟩
     have K3 := Lib.hid ((show Kp W0 _ from (by first | with_reducible exact K2.out | with_reducible exact K2.out.trans (Kp.alloc _ _) | with_reducible exact (K2.out.trans (Kp.alloc _ _)).trans (Kp.alloc _ _) | with_reducible exact ((K2.out.trans (Kp.alloc _ _)).trans (Kp.alloc _ _)).trans (Kp.alloc _ _) | with_reducible exact K2.out.trans (Kp.drew _) | with_reducible exact K2.out.trans (Kp.drewN _ _))).trans kk)
     clear kk
     clear c0 c1 c2 c3
     obtain ⟨c0, c1, c2, c3⟩ := HB.out w3 K3.out
     go_wp2_with fail
     refine (C1.out _ (K00.out.trans (by first | with_reducible exact K3.out | with_reducible exact K3.out.trans (Kp.alloc _ _) | with_reducible exact (K3.out.trans (Kp.alloc _ _)).trans (Kp.alloc _ _) | with_reducible exact ((K3.out.trans (Kp.alloc _ _)).trans (Kp.alloc _ _)).trans (Kp.alloc _ _) | with_reducible exact K3.out.trans (Kp.drew _) | with_reducible exact K3.out.trans (Kp.drewN _ _)))).mono ?_
     rintro e w4 ⟨rfl, kk⟩
     have K4 := Lib.hid ((show Kp W0 _ from (by first | with_reducible exact K3.out | with_reducible exact K3.out.trans (Kp.alloc _ _) | with_reducible exact (K3.out.trans (Kp.alloc _ _)).trans (Kp.alloc _ _) | with_reducible exact ((K3.out.trans (Kp.alloc _ _)).trans (Kp.alloc _ _)).trans (Kp.alloc _ _) | with_reducible exact K3.out.trans (Kp.drew _) | with_reducible exact K3.out.trans (Kp.drewN _ _))).trans kk)
     clear kk
     clear c0 c1 c2 c3
     obtain ⟨c0, c1, c2, c3⟩ := HB.out w4 K4.out
     go_wp2_with fail
     refine (D1.out _ (K00.out.trans (by first | with_reducible exact K4.out | with_reducible exact K4.out.trans (Kp.alloc _ _) | with_reducible exact (K4.out.trans (Kp.alloc _ _)).trans (Kp.alloc _ _) | with_reducible exact ((K4.out.trans (Kp.alloc _ _)).trans (Kp.alloc _ _)).trans (Kp.alloc _ _) | with_reducible exact K4.out.trans (Kp.drew _) | with_reducible exact K4.out.trans (Kp.drewN _ _)))).mono ?_
     rintro e w5 ⟨rfl, kk⟩
     have K5 := Lib.hid ((show Kp W0 _ from (by first | with_reducible exact K4.out | with_reducible exact K4.out.trans (Kp.alloc _ _) | with_reducible exact (K4.out.trans (Kp.alloc _ _)).trans (Kp.alloc _ _) | with_reducible exact ((K4.out.trans (Kp.alloc _ _)).trans (Kp.alloc _ _)).trans (Kp.alloc _ _) | with_reducible exact K4.out.trans (Kp.drew _) | with_reducible exact K4.out.trans (Kp.drewN _ _))).trans kk)
     clear kk
     clear c0 c1 c2 c3
     obtain ⟨c0, c1, c2, c3⟩ := HB.out w5 K5.out
     go_wp2
     go_ret
     exact ⟨rfl, K00.out.trans K5.out⟩
    | true =>
     cases y with
     | false =>
      clear BT2 RB
      generalize relM l m = M at *
      go_enter Tryz.func5, Tryz.ntmps5
      go_wp2_with fail
      rw [← HW.out]
      refine (CA.out _ (K00.out.trans (by first | with_reducible exact K0.out | with_reducible exact K0.out.trans (Kp.alloc _ _) | with_reducible exact (K0.out.trans (Kp.alloc _ _)).trans (Kp.alloc _ _) | with_reducible exact ((K0.out.trans (Kp.alloc _ _)).trans (Kp.alloc _ _)).trans (Kp.alloc _ _) | with_reducible exact K0.out.trans (Kp.drew _) | with_reducible exact K0.out.trans (Kp.drewN _ _)))).mono ?_
      rintro e w1 ⟨rfl, kk⟩
      have K1 := Lib.hid ((show Kp W0 _ from (by first | with_reducible exact K0.out | with_reducible exact K0.out.trans (Kp.alloc _ _) | with_reducible exact (K0.out.trans (Kp.alloc _ _)).trans (Kp.alloc _ _) | with_reducible exact ((K0.out.trans (Kp.alloc _ _)).trans (Kp.alloc _ _)).trans (Kp.alloc _ _) | with_reducible exact K0.out.trans (Kp.drew _) | with_reducible exact K0.out.trans (Kp.drewN _ _))).trans kk)
      clear kk
      clear c0 c1 c2 c3
      obtain ⟨c0, c1, c2, c3⟩ := HB.out w1 K1.out
      go_wp2_with fail
      refine (CF.out _ (K00.out.trans (by first | with_reducible exact K1.out | with_reducible exact K1.out.trans (Kp.alloc _ _) | with_reducible exact (K1.out.trans (Kp.alloc _ _)).trans (Kp.alloc _ _) | with_reducible exact ((K1.out.trans (Kp.alloc _ _)).trans (Kp.alloc _ _)).trans (Kp.alloc _ _) | with_reducible exact K1.out.trans (Kp.drew _) | with_reducible exact K1.out.trans (Kp.drewN _ _)))).mono ?_
      rintro e w2 ⟨rfl, kk⟩
      have K2 := Lib.hid ((show Kp W0 _ from (by first | with_reducible exact K1.out | with_reducible exact K1.out.trans (Kp.alloc _ _) | with_reducible exact (K1.out.trans (Kp.alloc _ _)).trans (Kp.alloc _ _) | with_reducible exact ((K1.out.trans (Kp.alloc _ _)).trans (Kp.alloc _ _)).trans (Kp.alloc _ _) | with_reducible exact K1.out.trans (Kp.drew _) | with_reducible exact K1.out.trans (Kp.drewN _ _))).trans kk)
      clear kk
      clear c0 c1 c2 c3
      obtain ⟨c0, c1, c2, c3⟩ := HB.out w2 K2.out
      go_wp2_with fail
      refine (CG.out _ (K00.out.trans (by first | with_reducible exact K2.out | with_reducible exact K2.out.trans (Kp.alloc _ _) | with_reducible exact (K2.out.trans (Kp.alloc _ _)).trans (Kp.alloc _ _) | with_reducible exact ((K2.out.trans (Kp.alloc _ _)).trans (Kp.alloc _ _)).trans (Kp.alloc _ _) | with_reducible exact K2.out.trans (Kp.drew _) | with_reducible exact K2.out.trans (Kp.drewN _ _)))).mono ?_
      rintro e w3 ⟨rfl, kk⟩
      have K3 := Lib.hid ((show Kp W0 _ from (by first | with_reducible exact K2.out | with_reducible exact K2.out.trans (Kp.alloc _ _) | with_reducible exact (K2.out.trans (Kp.alloc _ _)).trans (Kp.alloc _ _) | with_reducible exact ((K2.out.trans (Kp.alloc _ _)).trans (Kp.alloc _ _)).trans (Kp.alloc _ _) | with_reducible exact K2.out.trans (Kp.drew _) | with_reducible exact K2.out.trans (Kp.drewN _ _))).trans kk)
      clear kk
      clear c0 c1 c2 c3
      obtain ⟨c0, c1, c2, c3⟩ := HB.out w3 K3.out
      go_wp2_with fail
      refine (C1.out _ (K00.out.trans (by first | with_reducible exact K3.out | with_reducible exact K3.out.trans (Kp.alloc _ _) | with_reducible exact (K3.out.trans (Kp.alloc _ _)).trans (Kp.alloc _ _) | with_reducible exact ((K3.out.trans (Kp.alloc _ _)).trans (Kp.alloc _ _)).trans (Kp.alloc _ _) | with_reducible exact K3.out.trans (Kp.drew _) | with_reducible exact K3.out.trans (Kp.drewN _ _)))).mono ?_
      rintro e w4 ⟨rfl, kk⟩
      have K4 := Lib.hid ((show Kp W0 _ from (by first | with_reducible exact K3.out | with_reducible exact K3.out.trans (Kp.alloc _ _) | with_reducible exact (K3.out.trans (Kp.alloc _ _)).trans (Kp.alloc _ _) | with_reducible exact ((K3.out.trans (Kp.alloc _ _)).trans (Kp.alloc _ _)).trans (Kp.alloc _ _) | with_reducible exact K3.out.trans (Kp.drew _) | with_reducible exact K3.out.trans (Kp.drewN _ _))).trans kk)
      clear kk
      clear c0 c1 c2 c3
      obtain ⟨c0, c1, c2, c3⟩ := HB.out w4 K4.out
      go_wp2_with fail
      refine (D1.out _ (K00.out.trans (by first | with_reducible exact K4.out | with_reducible exact K4.out.trans (Kp.alloc _ _) | with_reducible exact (K4.out.trans (Kp.alloc _ _)).trans (Kp.alloc _ _) | with_reducible exact ((K4.out.trans (Kp.alloc _ _)).trans (Kp.alloc _ _)).trans (Kp.alloc _ _) | with_reducible exact K4.out.trans (Kp.drew _) | with_reducible exact K4.out.trans (Kp.drewN _ _)))).mono ?_
      rintro e w5 ⟨rfl, kk⟩
      have K5 := Lib.hid ((show Kp W0 _ from (by first | with_reducible exact K4.out | with_reducible exact K4.out.trans (Kp.alloc _ _) | with_reducible exact (K4.out.trans (Kp.alloc _ _)).trans (Kp.alloc _ _) | with_reducible exact ((K4.out.trans (Kp.alloc _ _)).trans (Kp.alloc _ _)).trans (Kp.alloc _ _) | with_reducible exact K4.out.trans (Kp.drew _) | with_reducible exact K4.out.trans (Kp.drewN _ _))).trans kk)
      clear kk
      clear c0 c1 c2 c3
      obtain ⟨c0, c1, c2, c3⟩ := HB.out w5 K5.out
      go_wp2_with fail
      refine (D2.out _ (K00.out.trans (by first | with_reducible exact K5.out | with_reducible exact K5.out.trans (Kp.alloc _ _) | with_reducible exact (K5.out.trans (Kp.alloc _ _)).trans (Kp.alloc _ _) | with_reducible exact ((K5.out.trans (Kp.alloc _ _)).trans (Kp.alloc _ _)).trans (Kp.alloc _ _) | with_reducible exact K5.out.trans (Kp.drew _) | with_reducible exact K5.out.trans (Kp.drewN _ _)))).mono ?_
      rintro e w6 ⟨rfl, kk⟩
      have K6 := Lib.hid ((show Kp W0 _ from (by first | with_reducible exact K5.out | with_reducible exact K5.out.trans (Kp.alloc _ _) | with_reducible exact (K5.out.trans (Kp.alloc _ _)).trans (Kp.alloc _ _) | with_reducible exact ((K5.out.trans (Kp.alloc _ _)).trans (Kp.alloc _ _)).trans (Kp.alloc _ _) | with_reducible exact K5.out.trans (Kp.drew _) | with_reducible exact K5.out.trans (Kp.drewN _ _))).trans kk)
      clear kk
      clear c0 c1 c2 c3
      obtain ⟨c0, c1, c2, c3⟩ := HB.out w6 K6.out
      go_wp2
      go_ret
      exact ⟨rfl, K00.out.trans K6.out⟩
     | true =>
      obtain ⟨t1, t2, t3, t4⟩ := BT2 (by first | rfl | trivial) (by first | rfl | trivial)
      rw [t1, t2] at CO
      have CC2 := Lib.hid (CC.out (rel pS pE qS qE))
      rw [t4] at CC2
      generalize hr : rel pS pE qS qE = r at *
      obtain ⟨j, rfl⟩ := Int.eq_ofNat_of_zero_le RB.1
      rw [show ((j : Int)).toNat = j by omega] at t3
      generalize relM l m = M at *
      have t5 := t20_bit t3
      have j12 : j ≤ 12 := by omega
      clear BT2 CC t1 t2 t3 t4 hr RB
      go_enter Tryz.func5, Tryz.ntmps5
      go_wp2_with fail
      rw [← HW.out]
      refine (CA.out _ (K00.out.trans (by first | with_reducible exact K0.out | with_reducible exact K0.out.trans (Kp.alloc _ _) | with_reducible exact (K0.out.trans (Kp.alloc _ _)).trans (Kp.alloc _ _) | with_reducible exact ((K0.out.trans (Kp.alloc _ _)).trans (Kp.alloc _ _)).trans (Kp.alloc _ _) | with_reducible exact K0.out.trans (Kp.drew _) | with_reducible exact K0.out.trans (Kp.drewN _ _)))).mono ?_
      rintro e w1 ⟨rfl, kk⟩
      have K1 := Lib.hid ((show Kp W0 _ from (by first | with_reducible exact K0.out | with_reducible exact K0.out.trans (Kp.alloc _ _) | with_reducible exact (K0.out.trans (Kp.alloc _ _)).trans (Kp.alloc _ _) | with_reducible exact ((K0.out.trans (Kp.alloc _ _)).trans (Kp.alloc _ _)).trans (Kp.alloc _ _) | with_reducible exact K0.out.trans (Kp.drew _) | with_reducible exact K0.out.trans (Kp.drewN _ _))).trans kk)
      clear kk
      clear c0 c1 c2 c3
      obtain ⟨c0, c1, c2, c3⟩ := HB.out w1 K1.out
      go_wp2_with fail
      refine (CF.out _ (K00.out.trans (by first | with_reducible exact K1.out | with_reducible exact K1.out.trans (Kp.alloc _ _) | with_reducible exact (K1.out.trans (Kp.alloc _ _)).trans (Kp.alloc _ _) | with_reducible exact ((K1.out.trans (Kp.alloc _ _)).trans (Kp.alloc _ _)).trans (Kp.alloc _ _) | with_reducible exact K1.out.trans (Kp.drew _) | with_reducible exact K1.out.trans (Kp.drewN _ _)))).mono ?_
      rintro e w2 ⟨rfl, kk⟩
      have K2 := Lib.hid ((show Kp W0 _ from (by first | with_reducible exact K1.out | with_reducible exact K1.out.trans (Kp.alloc _ _) | with_reducible exact (K1.out.trans (Kp.alloc _ _)).trans (Kp.alloc _ _) | with_reducible exact ((K1.out.trans (Kp.alloc _ _)).trans (Kp.alloc _ _)).trans (Kp.alloc _ _) | with_reducible exact K1.out.trans (Kp.drew _) | with_reducible exact K1.out.trans (Kp.drewN _ _))).trans kk)
      clear kk
      clear c0 c1 c2 c3
      obtain ⟨c0, c1, c2, c3⟩ := HB.out w2 K2.out
      go_wp2_with fail
      refine (CG.out _ (K00.out.trans (by first | with_reducible exact K2.out | with_reducible exact K2.out.trans (Kp.alloc _ _) | with_reducible exact (K2.out.trans (Kp.alloc _ _)).trans (Kp.alloc _ _) | with_reducible exact ((K2.out.trans (Kp.alloc _ _)).trans (Kp.alloc _ _)).trans (Kp.alloc _ _) | with_reducible exact K2.out.trans (Kp.drew _) | with_reducible exact K2.out.trans (Kp.drewN _ _)))).mono ?_
      rintro e w3 ⟨rfl, kk⟩
      have K3 := Lib.hid ((show Kp W0 _ from (by first | with_reducible exact K2.out | with_reducible exact K2.out.trans (Kp.alloc _ _) | with_reducible exact (K2.out.trans (Kp.alloc _ _)).trans (Kp.alloc _ _) | with_reducible exact ((K2.out.trans (Kp.alloc _ _)).trans (Kp.alloc _ _)).trans (Kp.alloc _ _) | with_reducible exact K2.out.trans (Kp.drew _) | with_reducible exact K2.out.trans (Kp.drewN _ _))).trans kk)
      clear kk
      clear c0 c1 c2 c3
      obtain ⟨c0, c1, c2, c3⟩ := HB.out w3 K3.out
      go_wp2_with fail
      refine (C1.out _ (K00.out.trans (by first | with_reducible exact K3.out | with_reducible exact K3.out.trans (Kp.alloc _ _) | with_reducible exact (K3.out.trans (Kp.alloc _ _)).trans (Kp.alloc _ _) | with_reducible exact ((K3.out.trans (Kp.alloc _ _)).trans (Kp.alloc _ _)).trans (Kp.alloc _ _) | with_reducible exact K3.out.trans (Kp.drew _) | with_reducible exact K3.out.trans (Kp.drewN _ _)))).mono ?_
      rintro e w4 ⟨rfl, kk⟩
      have K4 := Lib.hid ((show Kp W0 _ from (by first | with_reducible exact K3.out | with_reducible exact K3.out.trans (Kp.alloc _ _) | with_reducible exact (K3.out.trans (Kp.alloc _ _)).trans (Kp.alloc _ _) | with_reducible exact ((K3.out.trans (Kp.alloc _ _)).trans (Kp.alloc _ _)).trans (Kp.alloc _ _) | with_reducible exact K3.out.trans (Kp.drew _) | with_reducible exact K3.out.trans (Kp.drewN _ _))).trans kk)
      clear kk
      clear c0 c1 c2 c3
      obtain ⟨c0, c1, c2, c3⟩ := HB.out w4 K4.out
      go_wp2_with fail
      refine (D1.out _ (K00.out.trans (by first | with_reducible exact K4.out | with_reducible exact K4.out.trans (Kp.alloc _ _) | with_reducible exact (K4.out.trans (Kp.alloc _ _)).trans (Kp.alloc _ _) | with_reducible exact ((K4.out.trans (Kp.alloc _ _)).trans (Kp.alloc _ _)).trans (Kp.alloc _ _) | with_reducible exact K4.out.trans (Kp.drew _) | with_reducible exact K4.out.trans (Kp.drewN _ _)))).mono ?_
      rintro e w5 ⟨rfl, kk⟩
      have K5 := Lib.hid ((show Kp W0 _ from (by first | with_reducible exact K4.out | with_reducible exact K4.out.trans (Kp.alloc _ _) | with_reducible exact (K4.out.trans (Kp.alloc _ _)).trans (Kp.alloc _ _) | with_reducible exact ((K4.out.trans (Kp.alloc _ _)).trans (Kp.alloc _ _)).trans (Kp.alloc _ _) | with_reducible exact K4.out.trans (Kp.drew _) | with_reducible exact K4.out.trans (Kp.drewN _ _))).trans kk)
      clear kk
      clear c0 c1 c2 c3
      obtain ⟨c0, c1, c2, c3⟩ := HB.out w5 K5.out
      go_wp2_with fail
      refine (D2.out _ (K00.out.trans (by first | with_reducible exact K5.out | with_reducible exact K5.out.trans (Kp.alloc _ _) | with_reducible exact (K5.out.trans (Kp.alloc _ _)).trans (Kp.alloc _ _) | with_reducible exact ((K5.out.trans (Kp.alloc _ _)).trans (Kp.alloc _ _)).trans (Kp.alloc _ _) | with_reducible exact K5.out.trans (Kp.drew _) | with_reducible exact K5.out.trans (Kp.drewN _ _)))).mono ?_
      rintro e w6 ⟨rfl, kk⟩
      have K6 := Lib.hid ((show Kp W0 _ from (by first | with_reducible exact K5.out | with_reducible exact K5.out.trans (Kp.alloc _ _) | with_reducible exact (K5.out.trans (Kp.alloc _ _)).trans (Kp.alloc _ _) | with_reducible exact ((K5.out.trans (Kp.alloc _ _)).trans (Kp.alloc _ _)).trans (Kp.alloc _ _) | with_reducible exact K5.out.trans (Kp.drew _) | with_reducible exact K5.out.trans (Kp.drewN _ _))).trans kk)
      clear kk
      clear c0 c1 c2 c3
      obtain ⟨c0, c1, c2, c3⟩ := HB.out w6 K6.out
      go_wp2_with fail
      refine (CO.out _).mono ?_
      rintro e w7 ⟨rfl, kk⟩
      have K7 := Lib.hid ((show Kp W0 _ from (by first | with_reducible exact K6.out | with_reducible exact K6.out.trans (Kp.alloc _ _) | with_reducible exact (K6.out.trans (Kp.alloc _ _)).trans (Kp.alloc _ _) | with_reducible exact ((K6.out.trans (Kp.alloc _ _)).trans (Kp.alloc _ _)).trans (Kp.alloc _ _) | with_reducible exact K6.out.trans (Kp.drew _) | with_reducible exact K6.out.trans (Kp.drewN _ _))).trans kk)
      clear kk
      clear c0 c1 c2 c3
      obtain ⟨c0, c1, c2, c3⟩ := HB.out w7 K7.out
      go_wp2_with fail
      refine (CC2.out _ (K00.out.trans (by first | with_reducible exact K7.out | with_reducible exact K7.out.trans (Kp.alloc _ _) | with_reducible exact (K7.out.trans (Kp.alloc _ _)).trans (Kp.alloc _ _) | with_reducible exact ((K7.out.trans (Kp.alloc _ _)).trans (Kp.alloc _ _)).trans (Kp.alloc _ _) | with_reducible exact K7.out.trans (Kp.drew _) | with_reducible exact K7.out.trans (Kp.drewN _ _)))).mono ?_
      rintro e w8 ⟨rfl, kk⟩
      have K8 := Lib.hid ((show Kp W0 _ from (by first | with_reducible exact K7.out | with_reducible exact K7.out.trans (Kp.alloc _ _) | with_reducible exact (K7.out.trans (Kp.alloc _ _)).trans (Kp.alloc _ _) | with_reducible exact ((K7.out.trans (Kp.alloc _ _)).trans (Kp.alloc _ _)).trans (Kp.alloc _ _) | with_reducible exact K7.out.trans (Kp.drew _) | with_reducible exact K7.out.trans (Kp.drewN _ _))).trans kk)
      clear kk
      clear c0 c1 c2 c3
      obtain ⟨c0, c1, c2, c3⟩ := HB.out w8 K8.out
      go_wp2
      go_ret
      exact ⟨rfl, K00.out.trans K8.out⟩
end Go.Proofs.YtamdjbpgkiekcaaGreatDoor
