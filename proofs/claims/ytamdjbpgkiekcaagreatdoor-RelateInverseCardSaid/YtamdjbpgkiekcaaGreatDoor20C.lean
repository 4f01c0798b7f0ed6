import Derived.Test.YtamdjbpgkiekcaaGreatDoorGRlF
import Derived.Test.YtamdjbpgkiekcaaGreatDoorGEnv
namespace Go.Proofs.YtamdjbpgkiekcaaGreatDoor
open Go.RowKit
set_option linter.unusedVariables false
set_option linter.unusedSimpArgs false
theorem relOk_comm (l m : List LF) : relOk m l = relOk l m := by unfold relOk; exact Bool.and_comm _ _
theorem relE_comm (l m : List LF) : relE m l = relE l m := by unfold relE; rw [relOk_comm]
theorem relM_flip (l m : List LF) : relM m l = flN (relM l m) := by
 refine mask_ext (relM_lt _ _) (flN_lt _) fun r hr => ?_
 rw [flN_bit _ hr]
 cases h : relOk l m with
 | true =>
  rw [relM_bit (by rw [relOk_comm]; exact h) hr, relM_bit h (by omega), ← relP_turn (hasP_ok l) (hasP_ok m) (r := 12 - r) (by omega), show 12 - (12 - r) = r by omega]
 | false =>
  have e1 : relM m l = 0 := if_neg (by rw [relOk_comm, h]; simp)
  have e2 : relM l m = 0 := if_neg (by rw [h]; simp)
  rw [e1, e2]
  simp
theorem any_has (l : List LF) : anyB l = true ↔ ∃ S T, hasP l S T := by
 unfold anyB hasP hasL
 simp only [List.any_eq_true]
 constructor
 ·rintro ⟨f, hf, h⟩
  unfold fullB at h
  obtain ⟨⟨t, m⟩, _⟩ := days_met (famR_ok f) (by simpa using h)
  exact ⟨_, t, f, hf, m⟩
 ·rintro ⟨S, T, f, hf, h⟩
  exact ⟨f, hf, full_of h⟩
theorem rel_range (S T S' T' : Int) : 0 ≤ rel S T S' T' ∧ rel S T S' T' ≤ 12 := by
 unfold rel
 (repeat' split) <;> omega
theorem relM_zero {l m : List LF} (h : relOk l m = true) : relM l m = 0 ↔ ¬ (anyB l = true ∧ anyB m = true) := by
 rw [any_has, any_has]
 constructor
 ·rintro e ⟨⟨S, T, a⟩, S', T', b⟩
  have rr := rel_range S T S' T'
  have := (relM_bit h (r := (rel S T S' T').toNat) (by omega)).2 ⟨S, T, S', T', a, b, by omega⟩
  rw [e] at this
  simp at this
 ·intro n
  refine mask_ext (relM_lt _ _) (by decide) fun r hr => ?_
  rw [relM_bit h hr]
  constructor
  ·rintro ⟨S, T, S', T', a, b, _⟩
   exact absurd ⟨⟨S, T, a⟩, S', T', b⟩ n
  ·intro q
   simp at q
theorem anyB_no {l : List LF} (h : ∀ i, i < l.length → emptyF (famR (lat l i)) = true) : anyB l = false := by
 unfold anyB
 rw [List.any_eq_false]
 intro f hf
 obtain ⟨i, hi, rfl⟩ := List.mem_iff_getElem.1 hf
 have := h i hi
 unfold lat at this
 rw [List.getD_eq_getElem?_getD, List.getElem?_eq_getElem hi] at this
 rw [show (some l[i]).getD _ = l[i] from rfl] at this
 unfold fullB
 rw [this]
 simp
theorem anyB_yes {l : List LF} {k : Nat} (h : k < l.length) (g : emptyF (famR (lat l k)) = false) : anyB l = true := List.any_eq_true.2 ⟨_, lat_mem h, by unfold fullB; rw [g]; rfl⟩
set_option maxHeartbeats 16000000 in
set_option maxRecDepth 100000 in
theorem none_any (v : Value) (l : List LF) (w : World) (hv : LeavesAt w v l) (hl : LsOk l) (T : Tabs w) :
  Calls Tryz.prog 23 #[v] w fun e w' => e = .returned (.bool (!anyB l)) ∧ Kp w w' := by
 have hm := hv.len
 unfold maxLen at hm
 obtain ⟨ad, cp, rfl⟩ := hv.slice
 have HV := Lib.hid hv
 have HL := Lib.hid hl
 have TT := Lib.hid T
 have NO := Lib.hid (fun h => anyB_no (l := l) h)
 have YES := Lib.hid (fun k (h : k < l.length) g => anyB_yes (l := l) h g)
 clear hv hl T
 generalize anyB l = r at *
 go_enter Tryz.func23, Tryz.ntmps23
 go_wp2
 go_loopw [3] (fun i wr => ∃ k : Nat, k ≤ l.length ∧ i = .int .i64 k ∧ Hid (∀ i, i < k → emptyF (famR (lat l i)) = true) ∧ Hid (Kp w wr)) (fun i _ => l.length - (intOf i).toNat)
 case atStart => exact ⟨0, Nat.zero_le _, rfl, Lib.hid (fun i h => by omega), Lib.hid (Kp.refl w)⟩
 case round =>
  obtain ⟨k, hk, rfl, FA, J⟩ := hrel
  by_cases hlt : k < l.length
  ·have q1 : decide ((k : Int) < (l.length : Int)) = true := decide_eq_true (by omega)
   rcases HV.out.kp J.out with ⟨_, _, _, e⟩ | ⟨b0, off, cap, ev, hc, hmx, hx⟩
   ·rw [e] at hlt; simp at hlt
   cases ev
   obtain ⟨va, vb, d0, d1, d2, d3, ra, rb⟩ := hx k hlt
   have LOK := HL.out _ (lat_mem hlt)
   obtain ⟨f, hf⟩ : ∃ f, lat l k = f := ⟨_, rfl⟩
   rw [hf] at d0 d1 ra rb
   (try rw [hf] at LOK)
   obtain ⟨sp, u, a, b⟩ := f
   simp only at d0 d1 ra rb
   (try simp only at LOK)
   obtain ⟨aa, ca, rfl⟩ := ra.slice
   obtain ⟨ab, cb, rfl⟩ := rb.slice
   have HF := Lib.hid hf
   have z1 : (k : Int) < (l.length : Int) := by omega
   have z2 : (0 : Int) ≤ (k : Int) := by omega
   clear hx hc hmx hf
   have C := Lib.hid (fun w1 (kk : Kp wr w1) => leafEmpty_any ⟨sp, u, a, b⟩ _ _ w1 ⟨ra.kp kk, rb.kp kk, LOK.1, LOK.2.1, LOK.2.2.1, LOK.2.2.2⟩ (TT.out.kp (J.out.trans kk)).2)
   simp only [leafV] at C
   have N := Lib.hid (fun (g : emptyF (famR ⟨sp, u, a, b⟩) = false) => YES.out k hlt (show emptyF (famR (lat l k)) = false by rw [HF.out]; exact g))
   have Y := Lib.hid (fun (g : emptyF (famR ⟨sp, u, a, b⟩) = true) => (by rw [HF.out]; exact g : emptyF (famR (lat l k)) = true))
   generalize emptyF (famR ⟨sp, u, a, b⟩) = eb at *
   have KR := Lib.hid (Kp.refl wr)
   clear ra rb YES
   cases eb with
   | false =>
    have hr := N.out (by first | rfl | trivial)
    subst hr
    go_wp2_with fail
    refine (C.out _ (by first | with_reducible exact KR.out | with_reducible exact KR.out.trans (Kp.alloc _ _) | with_reducible exact (KR.out.trans (Kp.alloc _ _)).trans (Kp.alloc _ _) | with_reducible exact ((KR.out.trans (Kp.alloc _ _)).trans (Kp.alloc _ _)).trans (Kp.alloc _ _) | with_reducible exact KR.out.trans (Kp.drew _) | with_reducible exact KR.out.trans (Kp.drewN _ _))).mono ?_
    rintro e w1 ⟨rfl, kk⟩
    have J1 := Lib.hid (J.out.trans ((show Kp wr _ from (by first | with_reducible exact KR.out | with_reducible exact KR.out.trans (Kp.alloc _ _) | with_reducible exact (KR.out.trans (Kp.alloc _ _)).trans (Kp.alloc _ _) | with_reducible exact ((KR.out.trans (Kp.alloc _ _)).trans (Kp.alloc _ _)).trans (Kp.alloc _ _) | with_reducible exact KR.out.trans (Kp.drew _) | with_reducible exact KR.out.trans (Kp.drewN _ _))).trans kk))
    clear kk
    go_wp2
    go_ret
    exact ⟨rfl, J1.out⟩
   | true =>
    go_wp2_with fail
    refine (C.out _ (by first | with_reducible exact KR.out | with_reducible exact KR.out.trans (Kp.alloc _ _) | with_reducible exact (KR.out.trans (Kp.alloc _ _)).trans (Kp.alloc _ _) | with_reducible exact ((KR.out.trans (Kp.alloc _ _)).trans (Kp.alloc _ _)).trans (Kp.alloc _ _) | with_reducible exact KR.out.trans (Kp.drew _) | with_reducible exact KR.out.trans (Kp.drewN _ _))).mono ?_
    rintro e w1 ⟨rfl, kk⟩
    have J1 := Lib.hid (J.out.trans ((show Kp wr _ from (by first | with_reducible exact KR.out | with_reducible exact KR.out.trans (Kp.alloc _ _) | with_reducible exact (KR.out.trans (Kp.alloc _ _)).trans (Kp.alloc _ _) | with_reducible exact ((KR.out.trans (Kp.alloc _ _)).trans (Kp.alloc _ _)).trans (Kp.alloc _ _) | with_reducible exact KR.out.trans (Kp.drew _) | with_reducible exact KR.out.trans (Kp.drewN _ _))).trans kk))
    clear kk
    go_wp2
    go_roundw
    case rel => exact ⟨k + 1, by omega, by go_num, Lib.hid (fun i hi => by
     by_cases c : i < k
     ·exact FA.out i c
     ·obtain rfl : i = k := by omega
      exact Y.out (by first | rfl | trivial)), J1⟩
    case measure => simp [intOf]; omega
  ·have q1 : decide ((k : Int) < (l.length : Int)) = false := decide_eq_false (by omega)
   obtain rfl : k = l.length := by omega
   have hr := NO.out FA.out
   subst hr
   go_wp2
   go_ret
   exact ⟨rfl, J.out⟩
set_option maxHeartbeats 16000000 in
set_option maxRecDepth 100000 in
theorem relateInverse_walk (va vb : Value) (l m : List LF) (w : World) (ha : LeavesAt w va l) (hb : LeavesAt w vb m) (ga : ∀ f ∈ l, LeafG f) (gb : ∀ f ∈ m, LeafG f) (T : Tabs20 w) :
  Calls Tryz.prog 6 #[va, vb] w fun e w' => e = .returned (.bool true) ∧ Kp w w' := by
 obtain ⟨aa, ca, rfl⟩ := ha.slice
 obtain ⟨ab, cb, rfl⟩ := hb.slice
 have CA := Lib.hid (awake20 w T)
 have CF := Lib.hid (fun w1 (k : Kp w w1) => few20_any _ l w1 (ha.kp k) ga)
 have CG := Lib.hid (fun w1 (k : Kp w w1) => few20_any _ m w1 (hb.kp k) gb)
 have OKL := Lib.hid (fun h => few20_ok (l := l) h ga)
 have OKM := Lib.hid (fun h => few20_ok (l := m) h gb)
 generalize few20 l = fl at *
 generalize few20 m = fm at *
 cases fl with
 | false =>
  clear ha hb T ga gb OKL OKM
  go_enter Tryz.func6, Tryz.ntmps6
  go_wp2_with fail
  refine CA.out.mono ?_
  rintro e w1 ⟨rfl, kk⟩
  have K1 := Lib.hid kk
  clear kk
  go_wp2_with fail
  refine (CF.out _ K1.out).mono ?_
  rintro e w2 ⟨rfl, kk⟩
  have K2 := Lib.hid (K1.out.trans kk)
  clear kk
  go_wp2
  go_ret
  exact ⟨rfl, K2.out⟩
 | true =>
  obtain ⟨ol, nl⟩ := OKL.out (by first | rfl | trivial)
  cases fm with
  | false =>
   clear ha hb T ga gb OKL OKM ol nl
   go_enter Tryz.func6, Tryz.ntmps6
   go_wp2_with fail
   refine CA.out.mono ?_
   rintro e w1 ⟨rfl, kk⟩
   have K1 := Lib.hid kk
   clear kk
   go_wp2_with fail
   refine (CF.out _ K1.out).mono ?_
   rintro e w2 ⟨rfl, kk⟩
   have K2 := Lib.hid (K1.out.trans kk)
   clear kk
   go_wp2_with fail
   refine (CG.out _ K2.out).mono ?_
   rintro e w3 ⟨rfl, kk⟩
   have K3 := Lib.hid (K2.out.trans kk)
   clear kk
   go_wp2
   go_ret
   exact ⟨rfl, K3.out⟩
  | true =>
   obtain ⟨om, nm⟩ := OKM.out (by first | rfl | trivial)
   have C1 := Lib.hid (fun w1 (k : Kp w w1) => relations_any _ _ l m w1 (ha.kp k) (hb.kp k) ol om (by omega) (by omega) (T.kp k).1)
   have C2 := Lib.hid (fun w1 (k : Kp w w1) => relations_any _ _ m l w1 (hb.kp k) (ha.kp k) om ol (by omega) (by omega) (T.kp k).1)
   have N1 := Lib.hid (fun w1 (k : Kp w w1) => none_any _ l w1 (ha.kp k) ol (T.kp k).1)
   have N2 := Lib.hid (fun w1 (k : Kp w w1) => none_any _ m w1 (hb.kp k) om (T.kp k).1)
   have MF := relM_flip l m
   have EC := relE_comm l m
   have ML := relM_lt l m
   have RE : relE l m = if relOk l m = true then 0 else 8 := rfl
   have M0 : relOk l m = false → relM l m = 0 := fun h => if_neg (by rw [h]; simp)
   have MZ := relM_zero (l := l) (m := m)
   rw [MF, EC] at C2
   have CFL := Lib.hid (fun (q : Nat) w1 => flipN_any q w1)
   generalize relM l m = M at *
   generalize relE l m = E at *
   clear MF EC
   cases ho : relOk l m with
   | false =>
    have m0 := M0 ho
    rw [ho, if_neg Bool.false_ne_true] at RE
    subst m0
    subst RE
    have f0 : flN 0 = 0 := by decide +kernel
    rw [f0] at C2
    clear ha hb T ga gb OKL OKM ol nl om nm M0 MZ ho ML f0
    go_enter Tryz.func6, Tryz.ntmps6
    go_wp2_with fail
    refine CA.out.mono ?_
    rintro e w1 ⟨rfl, kk⟩
    have K1 := Lib.hid kk
    clear kk
    go_wp2_with fail
    refine (CF.out _ K1.out).mono ?_
    rintro e w2 ⟨rfl, kk⟩
    have K2 := Lib.hid (K1.out.trans kk)
    clear kk
    go_wp2_with fail
    refine (CG.out _ K2.out).mono ?_
    rintro e w3 ⟨rfl, kk⟩
    have K3 := Lib.hid (K2.out.trans kk)
    clear kk
    go_wp2_with fail
    refine (C1.out _ K3.out).mono ?_
    rintro e w4 ⟨rfl, kk⟩
    have K4 := Lib.hid (K3.out.trans kk)
    clear kk
    go_wp2_with fail
    refine (C2.out _ K4.out).mono ?_
    rintro e w5 ⟨rfl, kk⟩
    have K5 := Lib.hid (K4.out.trans kk)
    clear kk
    go_wp2_with fail
    refine (CFL.out 0 _).mono ?_
    rintro e w' ⟨rfl, rfl⟩
    have f0 : ((flN 0 : Nat) : Int) = 0 := by decide +kernel
    rw [f0]
    go_wp2
    go_ret
    exact ⟨rfl, K5.out⟩
   | true =>
    have mz := MZ ho
    rw [ho, if_pos rfl] at RE
    subst RE
    have g1 : decide ((M : Int) < 0) = false := decide_eq_false (by omega)
    have g2 : decide ((M : Int) > 8191) = false := decide_eq_false (by omega)
    have g3 : decide ((8191 : Int) < (M : Int)) = false := decide_eq_false (by omega)
    have g4 : decide (8191 < M) = false := decide_eq_false (by omega)
    generalize anyB l = al at *
    generalize anyB m = am at *
    clear ha hb T ga gb OKL OKM ol nl om nm M0 MZ ho ML
    by_cases hz : M = 0
    ·have hn := mz.1 hz
     subst hz
     have f0 : flN 0 = 0 := by decide +kernel
     rw [f0] at C2
     clear mz f0
     cases al with
     | false =>
      clear hn
      go_enter Tryz.func6, Tryz.ntmps6
      go_wp2_with fail
      refine CA.out.mono ?_
      rintro e w1 ⟨rfl, kk⟩
      have K1 := Lib.hid kk
      clear kk
      go_wp2_with fail
      refine (CF.out _ K1.out).mono ?_
      rintro e w2 ⟨rfl, kk⟩
      have K2 := Lib.hid (K1.out.trans kk)
      clear kk
      go_wp2_with fail
      refine (CG.out _ K2.out).mono ?_
      rintro e w3 ⟨rfl, kk⟩
      have K3 := Lib.hid (K2.out.trans kk)
      clear kk
      go_wp2_with fail
      refine (C1.out _ K3.out).mono ?_
      rintro e w4 ⟨rfl, kk⟩
      have K4 := Lib.hid (K3.out.trans kk)
      clear kk
      go_wp2_with fail
      refine (C2.out _ K4.out).mono ?_
      rintro e w5 ⟨rfl, kk⟩
      have K5 := Lib.hid (K4.out.trans kk)
      clear kk
      go_wp2_with fail
      refine (CFL.out 0 _).mono ?_
      rintro e w' ⟨rfl, rfl⟩
      have f0 : ((flN 0 : Nat) : Int) = 0 := by decide +kernel
      rw [f0]
      go_wp2_with fail
      refine (N1.out _ K5.out).mono ?_
      rintro e w6 ⟨rfl, kk⟩
      have K6 := Lib.hid (K5.out.trans kk)
      clear kk
      go_wp2
      go_ret
      exact ⟨rfl, K6.out⟩
     | true =>
      cases am with
      | true => exact absurd ⟨rfl, rfl⟩ hn
      | false =>
       clear hn
       go_enter Tryz.func6, Tryz.ntmps6
       go_wp2_with fail
       refine CA.out.mono ?_
       rintro e w1 ⟨rfl, kk⟩
       have K1 := Lib.hid kk
       clear kk
       go_wp2_with fail
       refine (CF.out _ K1.out).mono ?_
       rintro e w2 ⟨rfl, kk⟩
       have K2 := Lib.hid (K1.out.trans kk)
       clear kk
       go_wp2_with fail
       refine (CG.out _ K2.out).mono ?_
       rintro e w3 ⟨rfl, kk⟩
       have K3 := Lib.hid (K2.out.trans kk)
       clear kk
       go_wp2_with fail
       refine (C1.out _ K3.out).mono ?_
       rintro e w4 ⟨rfl, kk⟩
       have K4 := Lib.hid (K3.out.trans kk)
       clear kk
       go_wp2_with fail
       refine (C2.out _ K4.out).mono ?_
       rintro e w5 ⟨rfl, kk⟩
       have K5 := Lib.hid (K4.out.trans kk)
       clear kk
       go_wp2_with fail
       refine (CFL.out 0 _).mono ?_
       rintro e w' ⟨rfl, rfl⟩
       have f0 : ((flN 0 : Nat) : Int) = 0 := by decide +kernel
       rw [f0]
       go_wp2_with fail
       refine (N1.out _ K5.out).mono ?_
       rintro e w6 ⟨rfl, kk⟩
       have K6 := Lib.hid (K5.out.trans kk)
       clear kk
       go_wp2_with fail
       refine (N2.out _ K6.out).mono ?_
       rintro e w7 ⟨rfl, kk⟩
       have K7 := Lib.hid (K6.out.trans kk)
       clear kk
       go_wp2
       go_ret
       exact ⟨rfl, K7.out⟩
    ·have hn : al = true ∧ am = true := Classical.byContradiction fun h => hz (mz.2 h)
     obtain ⟨rfl, rfl⟩ := hn
     have h1 : ((M : Int) == 0) = false := by simp; omega
     have h2 : (M == 0) = false := by simp; omega
     clear mz hz
     go_enter Tryz.func6, Tryz.ntmps6
     go_wp2_with fail
     refine CA.out.mono ?_
     rintro e w1 ⟨rfl, kk⟩
     have K1 := Lib.hid kk
     clear kk
     go_wp2_with fail
     refine (CF.out _ K1.out).mono ?_
     rintro e w2 ⟨rfl, kk⟩
     have K2 := Lib.hid (K1.out.trans kk)
     clear kk
     go_wp2_with fail
     refine (CG.out _ K2.out).mono ?_
     rintro e w3 ⟨rfl, kk⟩
     have K3 := Lib.hid (K2.out.trans kk)
     clear kk
     go_wp2_with fail
     refine (C1.out _ K3.out).mono ?_
     rintro e w4 ⟨rfl, kk⟩
     have K4 := Lib.hid (K3.out.trans kk)
     clear kk
     go_wp2_with fail
     refine (C2.out _ K4.out).mono ?_
     rintro e w5 ⟨rfl, kk⟩
     have K5 := Lib.hid (K4.out.trans kk)
     clear kk
     go_wp2_with fail
     refine (CFL.out M _).mono ?_
     rintro e w' ⟨rfl, rfl⟩
     go_wp2_with fail
     refine (N1.out _ K5.out).mono ?_
     rintro e w6 ⟨rfl, kk⟩
     have K6 := Lib.hid (K5.out.trans kk)
     clear kk
     go_wp2_with fail
     refine (N2.out _ K6.out).mono ?_
     rintro e w7 ⟨rfl, kk⟩
     have K7 := Lib.hid (K6.out.trans kk)
     clear kk
     go_wp2
     go_ret
     exact ⟨rfl, K7.out⟩
end Go.Proofs.YtamdjbpgkiekcaaGreatDoor
