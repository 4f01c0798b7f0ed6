/-
  Layer 20: what is too wide is told (RelateWide).
-/
import Derived.Test.YtamdjbpgkiekcaaGreatDoor20D
namespace Go.Proofs.YtamdjbpgkiekcaaGreatDoor
open Go.RowKit
set_option linter.unusedVariables false
set_option linter.unusedSimpArgs false
theorem t20_and15 (n : Int) : bits .and .i64 n 15 = n % 16 := by
  have key : (BitVec.ofInt 64 n &&& BitVec.ofInt 64 15).toNat = (n % 16).toNat := by
    rw [BitVec.toNat_and, BitVec.toNat_ofInt, BitVec.toNat_ofInt]
    rw [show ((15 : Int) % ((2 ^ 64 : Nat) : Int)).toNat = 2 ^ 4 - 1 by decide, Nat.and_two_pow_sub_one_eq_mod]
    simp only [show ((2 ^ 64 : Nat) : Int) = 18446744073709551616 from rfl, Nat.reducePow]
    omega
  show IntKind.i64.wrap ((BitVec.ofInt 64 n &&& BitVec.ofInt 64 15).toNat : Nat) = _
  rw [key, IntKind.wrap_i64]
  omega
theorem okAll_unit {f : LF} (hf : leafB f = true) (sf : f.sp = false) : okAll [f] = edgB f.u f.a := by
  unfold okAll
  rw [List.all_cons, List.all_nil, famR_units hf sf]
  show (edgB f.u f.a && edgB f.u f.a && true) = _
  cases edgB f.u f.a <;> rfl
theorem wide_months : ∀ x : Nat, x < 16 → okAll [moF 0 (394 + (x : Int))] = decide (x ≤ 5) := by
  intro x hx
  have h1 : leafB (moF 0 (394 + (x : Int))) = true := by
    obtain rfl | rfl | rfl | rfl | rfl | rfl | rfl | rfl | rfl | rfl | rfl | rfl | rfl | rfl | rfl | rfl : x = 0 ∨ x = 1 ∨ x = 2 ∨ x = 3 ∨ x = 4 ∨ x = 5 ∨ x = 6 ∨ x = 7 ∨ x = 8 ∨ x = 9 ∨ x = 10 ∨ x = 11 ∨ x = 12 ∨ x = 13 ∨ x = 14 ∨ x = 15 := by omega
    all_goals decide +kernel
  rw [okAll_unit h1 rfl]
  obtain rfl | rfl | rfl | rfl | rfl | rfl | rfl | rfl | rfl | rfl | rfl | rfl | rfl | rfl | rfl | rfl : x = 0 ∨ x = 1 ∨ x = 2 ∨ x = 3 ∨ x = 4 ∨ x = 5 ∨ x = 6 ∨ x = 7 ∨ x = 8 ∨ x = 9 ∨ x = 10 ∨ x = 11 ∨ x = 12 ∨ x = 13 ∨ x = 14 ∨ x = 15 := by omega
  all_goals decide +kernel
theorem okAll_next {l : List LF} {k : Nat} (h : k < l.length) : okAll (l.take (k + 1)) = (okAll (l.take k) && (startsB (famR (lat l k)) && endsB (famR (lat l k)))) := by
  unfold okAll
  rw [take_lat l k h, List.all_append]
  simp
set_option maxHeartbeats 16000000 in
set_option maxRecDepth 100000 in
theorem relateWide_walk (vl : Value) (l : List LF) (vm : Value) (m : List LF) (n : Int) (w : World) (rl : LeavesAt w vl l) (gl : ∀ f ∈ l, LeafG f) (rm : LeavesAt w vm m) (gm : ∀ f ∈ m, LeafG f) (hn1 : -9223372036854775808 ≤ n) (hn2 : n ≤ 9223372036854775807) (T : Tabs20 w) :
    Calls Tryz.prog 9 #[vl, vm, .int .i64 n] w fun e w' => e = .returned (.bool true) ∧ Kp w w' := by
  have CA := Lib.hid (fun w1 (k : Kp w w1) => awake20 w1 (T.kp k))
  have CF := Lib.hid (fun w1 (k : Kp w w1) => few20_any _ l w1 (rl.kp k) gl)
  have CG := Lib.hid (fun w1 (k : Kp w w1) => few20_any _ m w1 (rm.kp k) gm)
  have OKL := Lib.hid (fun h => few20_ok (l := l) h gl)
  have OKM := Lib.hid (fun h => few20_ok (l := m) h gm)
  generalize few20 l = fl at *
  generalize few20 m = fm at *
  obtain ⟨adl, cal, rfl⟩ := rl.slice
  obtain ⟨adm, cam, rfl⟩ := rm.slice
  obtain ⟨W0, hW⟩ : ∃ W0, W0 = w := ⟨_, rfl⟩
  subst hW
  have K00 := Lib.hid (Kp.refl W0)
  have K0 := Lib.hid (Kp.refl W0)
  cases fl with
  | false =>
    clear rl rm T gl gm OKL OKM
    go_enter Tryz.func9, Tryz.ntmps9
    go_wp2_with fail
    refine (CA.out _ (K00.out.trans (by first | with_reducible exact K0.out | with_reducible exact K0.out.trans (Kp.alloc _ _) | with_reducible exact (K0.out.trans (Kp.alloc _ _)).trans (Kp.alloc _ _) | with_reducible exact ((K0.out.trans (Kp.alloc _ _)).trans (Kp.alloc _ _)).trans (Kp.alloc _ _) | with_reducible exact K0.out.trans (Kp.drew _) | with_reducible exact K0.out.trans (Kp.drewN _ _)))).mono ?_
    rintro e w1 ⟨rfl, kk⟩
    have K1 := Lib.hid ((show Kp W0 _ from (by first | with_reducible exact K0.out | with_reducible exact K0.out.trans (Kp.alloc _ _) | with_reducible exact (K0.out.trans (Kp.alloc _ _)).trans (Kp.alloc _ _) | with_reducible exact ((K0.out.trans (Kp.alloc _ _)).trans (Kp.alloc _ _)).trans (Kp.alloc _ _) | with_reducible exact K0.out.trans (Kp.drew _) | with_reducible exact K0.out.trans (Kp.drewN _ _))).trans kk)
    clear kk
    go_wp2_with fail
    refine (CF.out _ (K00.out.trans (by first | with_reducible exact K1.out | with_reducible exact K1.out.trans (Kp.alloc _ _) | with_reducible exact (K1.out.trans (Kp.alloc _ _)).trans (Kp.alloc _ _) | with_reducible exact ((K1.out.trans (Kp.alloc _ _)).trans (Kp.alloc _ _)).trans (Kp.alloc _ _) | with_reducible exact K1.out.trans (Kp.drew _) | with_reducible exact K1.out.trans (Kp.drewN _ _)))).mono ?_
    rintro e w2 ⟨rfl, kk⟩
    have K2 := Lib.hid ((show Kp W0 _ from (by first | with_reducible exact K1.out | with_reducible exact K1.out.trans (Kp.alloc _ _) | with_reducible exact (K1.out.trans (Kp.alloc _ _)).trans (Kp.alloc _ _) | with_reducible exact ((K1.out.trans (Kp.alloc _ _)).trans (Kp.alloc _ _)).trans (Kp.alloc _ _) | with_reducible exact K1.out.trans (Kp.drew _) | with_reducible exact K1.out.trans (Kp.drewN _ _))).trans kk)
    clear kk
    go_wp2
    go_ret
    exact ⟨rfl, K00.out.trans K2.out⟩
  | true =>
    obtain ⟨ol, nl⟩ := OKL.out (by first | rfl | trivial)
    cases fm with
    | false =>
      clear rl rm T gl gm OKL OKM ol nl
      go_enter Tryz.func9, Tryz.ntmps9
      go_wp2_with fail
      refine (CA.out _ (K00.out.trans (by first | with_reducible exact K0.out | with_reducible exact K0.out.trans (Kp.alloc _ _) | with_reducible exact (K0.out.trans (Kp.alloc _ _)).trans (Kp.alloc _ _) | with_reducible exact ((K0.out.trans (Kp.alloc _ _)).trans (Kp.alloc _ _)).trans (Kp.alloc _ _) | with_reducible exact K0.out.trans (Kp.drew _) | with_reducible exact K0.out.trans (Kp.drewN _ _)))).mono ?_
      rintro e w1 ⟨rfl, kk⟩
      have K1 := Lib.hid ((show Kp W0 _ from (by first | with_reducible exact K0.out | with_reducible exact K0.out.trans (Kp.alloc _ _) | with_reducible exact (K0.out.trans (Kp.alloc _ _)).trans (Kp.alloc _ _) | with_reducible exact ((K0.out.trans (Kp.alloc _ _)).trans (Kp.alloc _ _)).trans (Kp.alloc _ _) | with_reducible exact K0.out.trans (Kp.drew _) | with_reducible exact K0.out.trans (Kp.drewN _ _))).trans kk)
      clear kk
      go_wp2_with fail
      refine (CF.out _ (K00.out.trans (by first | with_reducible exact K1.out | with_reducible exact K1.out.trans (Kp.alloc _ _) | with_reducible exact (K1.out.trans (Kp.alloc _ _)).trans (Kp.alloc _ _) | with_reducible exact ((K1.out.trans (Kp.alloc _ _)).trans (Kp.alloc _ _)).trans (Kp.alloc _ _) | with_reducible exact K1.out.trans (Kp.drew _) | with_reducible exact K1.out.trans (Kp.drewN _ _)))).mono ?_
      rintro e w2 ⟨rfl, kk⟩
      have K2 := Lib.hid ((show Kp W0 _ from (by first | with_reducible exact K1.out | with_reducible exact K1.out.trans (Kp.alloc _ _) | with_reducible exact (K1.out.trans (Kp.alloc _ _)).trans (Kp.alloc _ _) | with_reducible exact ((K1.out.trans (Kp.alloc _ _)).trans (Kp.alloc _ _)).trans (Kp.alloc _ _) | with_reducible exact K1.out.trans (Kp.drew _) | with_reducible exact K1.out.trans (Kp.drewN _ _))).trans kk)
      clear kk
      go_wp2_with fail
      refine (CG.out _ (K00.out.trans (by first | with_reducible exact K2.out | with_reducible exact K2.out.trans (Kp.alloc _ _) | with_reducible exact (K2.out.trans (Kp.alloc _ _)).trans (Kp.alloc _ _) | with_reducible exact ((K2.out.trans (Kp.alloc _ _)).trans (Kp.alloc _ _)).trans (Kp.alloc _ _) | with_reducible exact K2.out.trans (Kp.drew _) | with_reducible exact K2.out.trans (Kp.drewN _ _)))).mono ?_
      rintro e w3 ⟨rfl, kk⟩
      have K3 := Lib.hid ((show Kp W0 _ from (by first | with_reducible exact K2.out | with_reducible exact K2.out.trans (Kp.alloc _ _) | with_reducible exact (K2.out.trans (Kp.alloc _ _)).trans (Kp.alloc _ _) | with_reducible exact ((K2.out.trans (Kp.alloc _ _)).trans (Kp.alloc _ _)).trans (Kp.alloc _ _) | with_reducible exact K2.out.trans (Kp.drew _) | with_reducible exact K2.out.trans (Kp.drewN _ _))).trans kk)
      clear kk
      go_wp2
      go_ret
      exact ⟨rfl, K00.out.trans K3.out⟩
    | true =>
      obtain ⟨om, nm⟩ := OKM.out (by first | rfl | trivial)
      have C1 := Lib.hid (fun w1 (k : Kp W0 w1) => relations_any _ _ l m w1 (rl.kp k) (rm.kp k) ol om (by omega) (by omega) (T.kp k).1)
      have REH := Lib.hid (show relE l m = if relOk l m = true then 0 else 8 from rfl)
      generalize relM l m = M1 at *
      obtain ⟨E1, hE1⟩ : ∃ x, relE l m = x := ⟨_, rfl⟩
      rw [hE1] at C1 REH
      clear hE1
      have VL := Lib.hid rl
      have VM := Lib.hid rm
      have OL := Lib.hid ol
      have OM := Lib.hid om
      have TT := Lib.hid T
      have NL := Lib.hid (show l.length ≤ 100 ∧ m.length ≤ 100 by omega)
      have NM := Lib.hid (show m.length ≤ 100 by omega)
      clear rl rm T gl gm OKL OKM ol om nl nm
      go_enter Tryz.func9, Tryz.ntmps9
      go_wp2_with fail
      refine (CA.out _ (K00.out.trans (by first | with_reducible exact K0.out | with_reducible exact K0.out.trans (Kp.alloc _ _) | with_reducible exact (K0.out.trans (Kp.alloc _ _)).trans (Kp.alloc _ _) | with_reducible exact ((K0.out.trans (Kp.alloc _ _)).trans (Kp.alloc _ _)).trans (Kp.alloc _ _) | with_reducible exact K0.out.trans (Kp.drew _) | with_reducible exact K0.out.trans (Kp.drewN _ _)))).mono ?_
      rintro e w1 ⟨rfl, kk⟩
      have K1 := Lib.hid ((show Kp W0 _ from (by first | with_reducible exact K0.out | with_reducible exact K0.out.trans (Kp.alloc _ _) | with_reducible exact (K0.out.trans (Kp.alloc _ _)).trans (Kp.alloc _ _) | with_reducible exact ((K0.out.trans (Kp.alloc _ _)).trans (Kp.alloc _ _)).trans (Kp.alloc _ _) | with_reducible exact K0.out.trans (Kp.drew _) | with_reducible exact K0.out.trans (Kp.drewN _ _))).trans kk)
      clear kk
      go_wp2_with fail
      refine (CF.out _ (K00.out.trans (by first | with_reducible exact K1.out | with_reducible exact K1.out.trans (Kp.alloc _ _) | with_reducible exact (K1.out.trans (Kp.alloc _ _)).trans (Kp.alloc _ _) | with_reducible exact ((K1.out.trans (Kp.alloc _ _)).trans (Kp.alloc _ _)).trans (Kp.alloc _ _) | with_reducible exact K1.out.trans (Kp.drew _) | with_reducible exact K1.out.trans (Kp.drewN _ _)))).mono ?_
      rintro e w2 ⟨rfl, kk⟩
      have K2 := Lib.hid ((show Kp W0 _ from (by first | with_reducible exact K1.out | with_reducible exact K1.out.trans (Kp.alloc _ _) | with_reducible exact (K1.out.trans (Kp.alloc _ _)).trans (Kp.alloc _ _) | with_reducible exact ((K1.out.trans (Kp.alloc _ _)).trans (Kp.alloc _ _)).trans (Kp.alloc _ _) | with_reducible exact K1.out.trans (Kp.drew _) | with_reducible exact K1.out.trans (Kp.drewN _ _))).trans kk)
      clear kk
      go_wp2_with fail
      refine (CG.out _ (K00.out.trans (by first | with_reducible exact K2.out | with_reducible exact K2.out.trans (Kp.alloc _ _) | with_reducible exact (K2.out.trans (Kp.alloc _ _)).trans (Kp.alloc _ _) | with_reducible exact ((K2.out.trans (Kp.alloc _ _)).trans (Kp.alloc _ _)).trans (Kp.alloc _ _) | with_reducible exact K2.out.trans (Kp.drew _) | with_reducible exact K2.out.trans (Kp.drewN _ _)))).mono ?_
      rintro e w3 ⟨rfl, kk⟩
      have K3 := Lib.hid ((show Kp W0 _ from (by first | with_reducible exact K2.out | with_reducible exact K2.out.trans (Kp.alloc _ _) | with_reducible exact (K2.out.trans (Kp.alloc _ _)).trans (Kp.alloc _ _) | with_reducible exact ((K2.out.trans (Kp.alloc _ _)).trans (Kp.alloc _ _)).trans (Kp.alloc _ _) | with_reducible exact K2.out.trans (Kp.drew _) | with_reducible exact K2.out.trans (Kp.drewN _ _))).trans kk)
      clear kk
      go_wp2_with fail
      refine (C1.out _ (K00.out.trans (by first | with_reducible exact K3.out | with_reducible exact K3.out.trans (Kp.alloc _ _) | with_reducible exact (K3.out.trans (Kp.alloc _ _)).trans (Kp.alloc _ _) | with_reducible exact ((K3.out.trans (Kp.alloc _ _)).trans (Kp.alloc _ _)).trans (Kp.alloc _ _) | with_reducible exact K3.out.trans (Kp.drew _) | with_reducible exact K3.out.trans (Kp.drewN _ _)))).mono ?_
      rintro e w4 ⟨rfl, kk⟩
      have K4 := Lib.hid ((show Kp W0 _ from (by first | with_reducible exact K3.out | with_reducible exact K3.out.trans (Kp.alloc _ _) | with_reducible exact (K3.out.trans (Kp.alloc _ _)).trans (Kp.alloc _ _) | with_reducible exact ((K3.out.trans (Kp.alloc _ _)).trans (Kp.alloc _ _)).trans (Kp.alloc _ _) | with_reducible exact K3.out.trans (Kp.drew _) | with_reducible exact K3.out.trans (Kp.drewN _ _))).trans kk)
      clear kk
      go_wp2
      go_loopw [10, 11] (fun wv i wr => ∃ (k : Nat) (ww : Bool), k ≤ l.length ∧ wv = .bool ww ∧ i = .int .i64 k ∧ Hid (ww = (!okAll (l.take k))) ∧ Hid (Kp w4 wr)) (fun _ i _ => l.length - (intOf i).toNat)
      case atStart => exact ⟨0, false, Nat.zero_le _, rfl, rfl, Lib.hid rfl, Lib.hid (Kp.refl _)⟩
      case round =>
        obtain ⟨k, ww, hk, rfl, rfl, HWW, J⟩ := hrel
        by_cases hlt : k < l.length
        · have q1 : decide ((k : Int) < (l.length : Int)) = true := decide_eq_true (by omega)
          have NX := okAll_next hlt
          rcases VL.out.kp (K4.out.trans J.out) with ⟨_, _, _, e⟩ | ⟨b0, off, cap, ev, hc, hmx, hx⟩
          · rw [e] at hlt; simp at hlt
          cases ev
          obtain ⟨va, vb, d0, d1, d2, d3, ra, rb⟩ := hx k hlt
          have LOK := OL.out _ (lat_mem hlt)
          obtain ⟨f, hf⟩ : ∃ f, lat l k = f := ⟨_, rfl⟩
          rw [hf] at d0 d1 ra rb
          (try rw [hf] at LOK)
          obtain ⟨sp, u, a, b⟩ := f
          simp only at d0 d1 ra rb
          (try simp only at LOK)
          obtain ⟨aa, ca, rfl⟩ := ra.slice
          obtain ⟨ab, cb, rfl⟩ := rb.slice
          have HF := Lib.hid hf
          have z1 : (k : Int) < (l.length : Int) := by omega
          have z2 : (0 : Int) ≤ (k : Int) := by omega
          clear hx hc hmx hf
          have e0 : lat l k = ⟨sp, u, a, b⟩ := HF.out
          rw [e0] at NX
          have CS := Lib.hid (fun w1 (kk : Kp wr w1) => leafStartsO_any ⟨sp, u, a, b⟩ _ _ w1 ⟨ra.kp kk, rb.kp kk, LOK.1, LOK.2.1, LOK.2.2.1, LOK.2.2.2⟩ (TT.out.kp (K4.out.trans (J.out.trans kk))).1)
          have CE := Lib.hid (fun w1 (kk : Kp wr w1) => leafEndsO_any ⟨sp, u, a, b⟩ _ _ w1 ⟨ra.kp kk, rb.kp kk, LOK.1, LOK.2.1, LOK.2.2.1, LOK.2.2.2⟩ (TT.out.kp (K4.out.trans (J.out.trans kk))).1)
          simp only [leafV] at CS CE
          generalize famR ⟨sp, u, a, b⟩ = F at *
          obtain ⟨sb, hsb⟩ : ∃ x, startsB F = x := ⟨_, rfl⟩
          obtain ⟨eb, heb⟩ : ∃ x, endsB F = x := ⟨_, rfl⟩
          rw [hsb] at CS NX
          rw [heb] at CE NX
          have HN := Lib.hid NX
          have z9 : k ≤ 1000 := by have := NL.out; omega
          have e3 := d3
          have HC := Lib.hid (fun w1 (kk : Kp wr w1) => show w1.cell? ⟨b0, off + k * 4, none⟩ = some (.bool sp) ∧ w1.cell? ⟨b0, off + k * 4 + 1, none⟩ = some (.int .i64 u) ∧ w1.cell? ⟨b0, off + k * 4 + 2, none⟩ = some (.slice aa a.length ca) ∧ w1.cell? ⟨b0, off + k * 4 + 3, none⟩ = some (.slice ab b.length cb) from ⟨cell_up kk d0, cell_up kk d1, cell_up kk d2, cell_up kk d3⟩)
          have KR := Lib.hid (Kp.refl wr)
          clear ra rb hsb heb e0 NX e3
          go_wp2_with fail
          refine (CS.out _ (by first | with_reducible exact KR.out | with_reducible exact KR.out.trans (Kp.alloc _ _) | with_reducible exact (KR.out.trans (Kp.alloc _ _)).trans (Kp.alloc _ _) | with_reducible exact ((KR.out.trans (Kp.alloc _ _)).trans (Kp.alloc _ _)).trans (Kp.alloc _ _) | with_reducible exact KR.out.trans (Kp.drew _) | with_reducible exact KR.out.trans (Kp.drewN _ _))).mono ?_
          rintro e w5 ⟨v5, rfl, o5, kk⟩
          obtain ⟨a5, c5, rfl⟩ := o5.runs.slice
          have J5 := Lib.hid ((show Kp wr _ from (by first | with_reducible exact KR.out | with_reducible exact KR.out.trans (Kp.alloc _ _) | with_reducible exact (KR.out.trans (Kp.alloc _ _)).trans (Kp.alloc _ _) | with_reducible exact ((KR.out.trans (Kp.alloc _ _)).trans (Kp.alloc _ _)).trans (Kp.alloc _ _) | with_reducible exact KR.out.trans (Kp.drew _) | with_reducible exact KR.out.trans (Kp.drewN _ _))).trans kk)
          clear kk o5 d0 d1 d2 d3
          obtain ⟨d0, d1, d2, d3⟩ := HC.out w5 J5.out
          go_wp2_with fail
          refine (CE.out _ (by first | with_reducible exact J5.out | with_reducible exact J5.out.trans (Kp.alloc _ _) | with_reducible exact (J5.out.trans (Kp.alloc _ _)).trans (Kp.alloc _ _) | with_reducible exact ((J5.out.trans (Kp.alloc _ _)).trans (Kp.alloc _ _)).trans (Kp.alloc _ _) | with_reducible exact J5.out.trans (Kp.drew _) | with_reducible exact J5.out.trans (Kp.drewN _ _))).mono ?_
          rintro e w6 ⟨v6, rfl, o6, kk⟩
          obtain ⟨a6, c6, rfl⟩ := o6.runs.slice
          have J6 := Lib.hid (J.out.trans ((show Kp wr _ from (by first | with_reducible exact J5.out | with_reducible exact J5.out.trans (Kp.alloc _ _) | with_reducible exact (J5.out.trans (Kp.alloc _ _)).trans (Kp.alloc _ _) | with_reducible exact ((J5.out.trans (Kp.alloc _ _)).trans (Kp.alloc _ _)).trans (Kp.alloc _ _) | with_reducible exact J5.out.trans (Kp.drew _) | with_reducible exact J5.out.trans (Kp.drewN _ _))).trans kk))
          clear kk o6 d0 d1 d2 d3
          cases ww with
          | false =>
            cases sb with
            | false =>
              cases eb with
              | false =>
                have H2 := Lib.hid (show true = (!okAll (l.take (k + 1))) by have h := HWW.out; rw [HN.out]; revert h; cases okAll (l.take k) <;> simp)
                go_wp2
                go_roundw
                case rel => exact ⟨k + 1, _, by omega, rfl, by go_num, H2, J6⟩
                case measure => simp [intOf]; omega
              | true =>
                have H2 := Lib.hid (show true = (!okAll (l.take (k + 1))) by have h := HWW.out; rw [HN.out]; revert h; cases okAll (l.take k) <;> simp)
                go_wp2
                go_roundw
                case rel => exact ⟨k + 1, _, by omega, rfl, by go_num, H2, J6⟩
                case measure => simp [intOf]; omega
            | true =>
              cases eb with
              | false =>
                have H2 := Lib.hid (show true = (!okAll (l.take (k + 1))) by have h := HWW.out; rw [HN.out]; revert h; cases okAll (l.take k) <;> simp)
                go_wp2
                go_roundw
                case rel => exact ⟨k + 1, _, by omega, rfl, by go_num, H2, J6⟩
                case measure => simp [intOf]; omega
              | true =>
                have H2 := Lib.hid (show false = (!okAll (l.take (k + 1))) by have h := HWW.out; rw [HN.out]; revert h; cases okAll (l.take k) <;> simp)
                go_wp2
                go_roundw
                case rel => exact ⟨k + 1, _, by omega, rfl, by go_num, H2, J6⟩
                case measure => simp [intOf]; omega
          | true =>
            cases sb with
            | false =>
              cases eb with
              | false =>
                have H2 := Lib.hid (show true = (!okAll (l.take (k + 1))) by have h := HWW.out; rw [HN.out]; revert h; cases okAll (l.take k) <;> simp)
                go_wp2
                go_roundw
                case rel => exact ⟨k + 1, _, by omega, rfl, by go_num, H2, J6⟩
                case measure => simp [intOf]; omega
              | true =>
                have H2 := Lib.hid (show true = (!okAll (l.take (k + 1))) by have h := HWW.out; rw [HN.out]; revert h; cases okAll (l.take k) <;> simp)
                go_wp2
                go_roundw
                case rel => exact ⟨k + 1, _, by omega, rfl, by go_num, H2, J6⟩
                case measure => simp [intOf]; omega
            | true =>
              cases eb with
              | false =>
                have H2 := Lib.hid (show true = (!okAll (l.take (k + 1))) by have h := HWW.out; rw [HN.out]; revert h; cases okAll (l.take k) <;> simp)
                go_wp2
                go_roundw
                case rel => exact ⟨k + 1, _, by omega, rfl, by go_num, H2, J6⟩
                case measure => simp [intOf]; omega
              | true =>
                have H2 := Lib.hid (show true = (!okAll (l.take (k + 1))) by have h := HWW.out; rw [HN.out]; revert h; cases okAll (l.take k) <;> simp)
                go_wp2
                go_roundw
                case rel => exact ⟨k + 1, _, by omega, rfl, by go_num, H2, J6⟩
                case measure => simp [intOf]; omega
        · have q1 : decide ((k : Int) < (l.length : Int)) = false := decide_eq_false (by omega)
          have ek : k = l.length := by omega
          subst ek
          rw [List.take_length] at HWW
          have HW1 := HWW
          have JB := J
          obtain ⟨wm, hwm⟩ : ∃ x, x = wr := ⟨_, rfl⟩
          subst hwm
          clear HWW J q1
          go_wp2
          go_loopw [10, 16] (fun wv i wr => ∃ (k : Nat) (ww : Bool), k ≤ m.length ∧ wv = .bool ww ∧ i = .int .i64 k ∧ Hid (ww = (!(okAll l && okAll (m.take k)))) ∧ Hid (Kp wm wr)) (fun _ i _ => m.length - (intOf i).toNat)
          case atStart => exact ⟨0, ww, Nat.zero_le _, rfl, rfl, Lib.hid (by rw [HW1.out]; show _ = (!(okAll l && okAll [])); rw [show okAll ([] : List LF) = true from rfl, Bool.and_true]), Lib.hid (Kp.refl _)⟩
          case round =>
            obtain ⟨k, ww, hk, rfl, rfl, HWW, J⟩ := hrel
            by_cases hlt : k < m.length
            · have q1 : decide ((k : Int) < (m.length : Int)) = true := decide_eq_true (by omega)
              have NX := okAll_next hlt
              rcases VM.out.kp ((K4.out.trans JB.out).trans J.out) with ⟨_, _, _, e⟩ | ⟨b0, off, cap, ev, hc, hmx, hx⟩
              · rw [e] at hlt; simp at hlt
              cases ev
              obtain ⟨va, vb, d0, d1, d2, d3, ra, rb⟩ := hx k hlt
              have LOK := OM.out _ (lat_mem hlt)
              obtain ⟨f, hf⟩ : ∃ f, lat m k = f := ⟨_, rfl⟩
              rw [hf] at d0 d1 ra rb
              (try rw [hf] at LOK)
              obtain ⟨sp, u, a, b⟩ := f
              simp only at d0 d1 ra rb
              (try simp only at LOK)
              obtain ⟨aa, ca, rfl⟩ := ra.slice
              obtain ⟨ab, cb, rfl⟩ := rb.slice
              have HF := Lib.hid hf
              have z1 : (k : Int) < (m.length : Int) := by omega
              have z2 : (0 : Int) ≤ (k : Int) := by omega
              clear hx hc hmx hf
              have e0 : lat m k = ⟨sp, u, a, b⟩ := HF.out
              rw [e0] at NX
              have CS := Lib.hid (fun w1 (kk : Kp wr w1) => leafStartsO_any ⟨sp, u, a, b⟩ _ _ w1 ⟨ra.kp kk, rb.kp kk, LOK.1, LOK.2.1, LOK.2.2.1, LOK.2.2.2⟩ (TT.out.kp ((K4.out.trans JB.out).trans (J.out.trans kk))).1)
              have CE := Lib.hid (fun w1 (kk : Kp wr w1) => leafEndsO_any ⟨sp, u, a, b⟩ _ _ w1 ⟨ra.kp kk, rb.kp kk, LOK.1, LOK.2.1, LOK.2.2.1, LOK.2.2.2⟩ (TT.out.kp ((K4.out.trans JB.out).trans (J.out.trans kk))).1)
              simp only [leafV] at CS CE
              generalize famR ⟨sp, u, a, b⟩ = F at *
              obtain ⟨sb, hsb⟩ : ∃ x, startsB F = x := ⟨_, rfl⟩
              obtain ⟨eb, heb⟩ : ∃ x, endsB F = x := ⟨_, rfl⟩
              rw [hsb] at CS NX
              rw [heb] at CE NX
              have HN := Lib.hid NX
              have z9 : k ≤ 1000 := by have := NL.out; omega
              have e3 := d3
              have HC := Lib.hid (fun w1 (kk : Kp wr w1) => show w1.cell? ⟨b0, off + k * 4, none⟩ = some (.bool sp) ∧ w1.cell? ⟨b0, off + k * 4 + 1, none⟩ = some (.int .i64 u) ∧ w1.cell? ⟨b0, off + k * 4 + 2, none⟩ = some (.slice aa a.length ca) ∧ w1.cell? ⟨b0, off + k * 4 + 3, none⟩ = some (.slice ab b.length cb) from ⟨cell_up kk d0, cell_up kk d1, cell_up kk d2, cell_up kk d3⟩)
              have KR := Lib.hid (Kp.refl wr)
              clear ra rb hsb heb e0 NX e3
              go_wp2_with fail
              refine (CS.out _ (by first | with_reducible exact KR.out | with_reducible exact KR.out.trans (Kp.alloc _ _) | with_reducible exact (KR.out.trans (Kp.alloc _ _)).trans (Kp.alloc _ _) | with_reducible exact ((KR.out.trans (Kp.alloc _ _)).trans (Kp.alloc _ _)).trans (Kp.alloc _ _) | with_reducible exact KR.out.trans (Kp.drew _) | with_reducible exact KR.out.trans (Kp.drewN _ _))).mono ?_
              rintro e w5 ⟨v5, rfl, o5, kk⟩
              obtain ⟨a5, c5, rfl⟩ := o5.runs.slice
              have J5 := Lib.hid ((show Kp wr _ from (by first | with_reducible exact KR.out | with_reducible exact KR.out.trans (Kp.alloc _ _) | with_reducible exact (KR.out.trans (Kp.alloc _ _)).trans (Kp.alloc _ _) | with_reducible exact ((KR.out.trans (Kp.alloc _ _)).trans (Kp.alloc _ _)).trans (Kp.alloc _ _) | with_reducible exact KR.out.trans (Kp.drew _) | with_reducible exact KR.out.trans (Kp.drewN _ _))).trans kk)
              clear kk o5 d0 d1 d2 d3
              obtain ⟨d0, d1, d2, d3⟩ := HC.out w5 J5.out
              go_wp2_with fail
              refine (CE.out _ (by first | with_reducible exact J5.out | with_reducible exact J5.out.trans (Kp.alloc _ _) | with_reducible exact (J5.out.trans (Kp.alloc _ _)).trans (Kp.alloc _ _) | with_reducible exact ((J5.out.trans (Kp.alloc _ _)).trans (Kp.alloc _ _)).trans (Kp.alloc _ _) | with_reducible exact J5.out.trans (Kp.drew _) | with_reducible exact J5.out.trans (Kp.drewN _ _))).mono ?_
              rintro e w6 ⟨v6, rfl, o6, kk⟩
              obtain ⟨a6, c6, rfl⟩ := o6.runs.slice
              have J6 := Lib.hid (J.out.trans ((show Kp wr _ from (by first | with_reducible exact J5.out | with_reducible exact J5.out.trans (Kp.alloc _ _) | with_reducible exact (J5.out.trans (Kp.alloc _ _)).trans (Kp.alloc _ _) | with_reducible exact ((J5.out.trans (Kp.alloc _ _)).trans (Kp.alloc _ _)).trans (Kp.alloc _ _) | with_reducible exact J5.out.trans (Kp.drew _) | with_reducible exact J5.out.trans (Kp.drewN _ _))).trans kk))
              clear kk o6 d0 d1 d2 d3
              cases ww with
              | false =>
                cases sb with
                | false =>
                  cases eb with
                  | false =>
                    have H2 := Lib.hid (show true = (!(okAll l && okAll (m.take (k + 1)))) by have h := HWW.out; rw [HN.out]; revert h; cases okAll l <;> cases okAll (m.take k) <;> simp)
                    go_wp2
                    go_roundw
                    case rel => exact ⟨k + 1, _, by omega, rfl, by go_num, H2, J6⟩
                    case measure => simp [intOf]; omega
                  | true =>
                    have H2 := Lib.hid (show true = (!(okAll l && okAll (m.take (k + 1)))) by have h := HWW.out; rw [HN.out]; revert h; cases okAll l <;> cases okAll (m.take k) <;> simp)
                    go_wp2
                    go_roundw
                    case rel => exact ⟨k + 1, _, by omega, rfl, by go_num, H2, J6⟩
                    case measure => simp [intOf]; omega
                | true =>
                  cases eb with
                  | false =>
                    have H2 := Lib.hid (show true = (!(okAll l && okAll (m.take (k + 1)))) by have h := HWW.out; rw [HN.out]; revert h; cases okAll l <;> cases okAll (m.take k) <;> simp)
                    go_wp2
                    go_roundw
                    case rel => exact ⟨k + 1, _, by omega, rfl, by go_num, H2, J6⟩
                    case measure => simp [intOf]; omega
                  | true =>
                    have H2 := Lib.hid (show false = (!(okAll l && okAll (m.take (k + 1)))) by have h := HWW.out; rw [HN.out]; revert h; cases okAll l <;> cases okAll (m.take k) <;> simp)
                    go_wp2
                    go_roundw
                    case rel => exact ⟨k + 1, _, by omega, rfl, by go_num, H2, J6⟩
                    case measure => simp [intOf]; omega
              | true =>
                cases sb with
                | false =>
                  cases eb with
                  | false =>
                    have H2 := Lib.hid (show true = (!(okAll l && okAll (m.take (k + 1)))) by have h := HWW.out; rw [HN.out]; revert h; cases okAll l <;> cases okAll (m.take k) <;> simp)
                    go_wp2
                    go_roundw
                    case rel => exact ⟨k + 1, _, by omega, rfl, by go_num, H2, J6⟩
                    case measure => simp [intOf]; omega
                  | true =>
                    have H2 := Lib.hid (show true = (!(okAll l && okAll (m.take (k + 1)))) by have h := HWW.out; rw [HN.out]; revert h; cases okAll l <;> cases okAll (m.take k) <;> simp)
                    go_wp2
                    go_roundw
                    case rel => exact ⟨k + 1, _, by omega, rfl, by go_num, H2, J6⟩
                    case measure => simp [intOf]; omega
                | true =>
                  cases eb with
                  | false =>
                    have H2 := Lib.hid (show true = (!(okAll l && okAll (m.take (k + 1)))) by have h := HWW.out; rw [HN.out]; revert h; cases okAll l <;> cases okAll (m.take k) <;> simp)
                    go_wp2
                    go_roundw
                    case rel => exact ⟨k + 1, _, by omega, rfl, by go_num, H2, J6⟩
                    case measure => simp [intOf]; omega
                  | true =>
                    have H2 := Lib.hid (show true = (!(okAll l && okAll (m.take (k + 1)))) by have h := HWW.out; rw [HN.out]; revert h; cases okAll l <;> cases okAll (m.take k) <;> simp)
                    go_wp2
                    go_roundw
                    case rel => exact ⟨k + 1, _, by omega, rfl, by go_num, H2, J6⟩
                    case measure => simp [intOf]; omega
            · have q1 : decide ((k : Int) < (m.length : Int)) = false := decide_eq_false (by omega)
              have ek : k = m.length := by omega
              subst ek
              rw [List.take_length] at HWW
              obtain ⟨x, hx⟩ : ∃ x : Nat, n % 16 = (x : Int) := ⟨(n % 16).toNat, by omega⟩
              have x16 : x < 16 := by omega
              have AN : bits .and .i64 n 15 = (x : Int) := by rw [t20_and15, hx]
              have wa : IntKind.i64.wrap (395 + (x : Int)) = 395 + (x : Int) := by rw [IntKind.wrap_i64]; omega
              have wb : IntKind.i64.wrap (395 + (x : Int) - 1) = 394 + (x : Int) := by rw [IntKind.wrap_i64]; omega
              have CM := Lib.hid (months_any 0 (394 + (x : Int)))
              have C9 := Lib.hid (fun v w1 (k : Kp W0 w1) (h : LeavesAt w1 v [moF 0 (394 + (x : Int))]) => relations_any v _ _ m w1 h (VM.out.kp k) (mo_i64 (by decide) (by decide) (by omega) (by omega)) OM.out (by simp) NM.out (TT.out.kp k).1)
              have RE9 : relE [moF 0 (394 + (x : Int))] m = if relOk [moF 0 (394 + (x : Int))] m = true then 0 else 8 := rfl
              have WX := wide_months x x16
              unfold relOk at RE9
              rw [WX] at RE9
              generalize relM [moF 0 (394 + (x : Int))] m = M9 at *
              generalize relE [moF 0 (394 + (x : Int))] m = E9 at *
              have RE1 := REH.out
              unfold relOk at RE1
              have hw := HWW.out
              generalize okAll l = ol2 at *
              generalize okAll m = om2 at *
              clear WX hx
              have K6 := Lib.hid (K4.out.trans (JB.out.trans J.out))
              by_cases hok : ol2 = true ∧ om2 = true
              · obtain ⟨rfl, rfl⟩ := hok
                rw [if_pos (by rfl)] at RE1
                rw [show (!(true && true)) = false from rfl] at hw
                subst hw RE1
                by_cases h5 : x ≤ 5
                · rw [decide_eq_true h5, if_pos (by rfl)] at RE9
                  subst RE9
                  have g1 : decide ((395 + (x : Int)) > 400) = false := decide_eq_false (by omega)
                  have g2 : decide ((400 : Int) < 395 + (x : Int)) = false := decide_eq_false (by omega)
                  clear h5
                  go_wp2_with fail
                  refine (CM.out _).mono ?_
                  rintro e w7 ⟨b7, rfl, lv, kk⟩
                  have K7 := Lib.hid (K6.out.trans ((show Kp wr _ from (by first | with_reducible exact Kp.refl _ | with_reducible exact Kp.alloc _ _ | with_reducible exact (Kp.alloc _ _).trans (Kp.alloc _ _) | with_reducible exact ((Kp.alloc _ _).trans (Kp.alloc _ _)).trans (Kp.alloc _ _) | with_reducible exact Kp.drew _ | with_reducible exact Kp.drewN _ _)).trans kk))
                  have L7 := Lib.hid lv
                  clear lv kk
                  go_wp2_with fail
                  refine (C9.out _ _ (K7.out.trans (by first | with_reducible exact Kp.refl _ | with_reducible exact Kp.alloc _ _ | with_reducible exact (Kp.alloc _ _).trans (Kp.alloc _ _) | with_reducible exact ((Kp.alloc _ _).trans (Kp.alloc _ _)).trans (Kp.alloc _ _) | with_reducible exact Kp.drew _ | with_reducible exact Kp.drewN _ _)) (L7.out.kp (by first | with_reducible exact Kp.refl _ | with_reducible exact Kp.alloc _ _ | with_reducible exact (Kp.alloc _ _).trans (Kp.alloc _ _) | with_reducible exact ((Kp.alloc _ _).trans (Kp.alloc _ _)).trans (Kp.alloc _ _) | with_reducible exact Kp.drew _ | with_reducible exact Kp.drewN _ _))).mono ?_
                  rintro e w8 ⟨rfl, kk⟩
                  have K8 := Lib.hid (K7.out.trans ((show Kp w7 _ from (by first | with_reducible exact Kp.refl _ | with_reducible exact Kp.alloc _ _ | with_reducible exact (Kp.alloc _ _).trans (Kp.alloc _ _) | with_reducible exact ((Kp.alloc _ _).trans (Kp.alloc _ _)).trans (Kp.alloc _ _) | with_reducible exact Kp.drew _ | with_reducible exact Kp.drewN _ _)).trans kk))
                  clear kk
                  go_wp2
                  go_ret
                  exact ⟨rfl, K00.out.trans K8.out⟩
                · rw [decide_eq_false h5, if_neg (by simp)] at RE9
                  subst RE9
                  have g1 : decide ((395 + (x : Int)) > 400) = true := decide_eq_true (by omega)
                  have g2 : decide ((400 : Int) < 395 + (x : Int)) = true := decide_eq_true (by omega)
                  clear h5
                  go_wp2_with fail
                  refine (CM.out _).mono ?_
                  rintro e w7 ⟨b7, rfl, lv, kk⟩
                  have K7 := Lib.hid (K6.out.trans ((show Kp wr _ from (by first | with_reducible exact Kp.refl _ | with_reducible exact Kp.alloc _ _ | with_reducible exact (Kp.alloc _ _).trans (Kp.alloc _ _) | with_reducible exact ((Kp.alloc _ _).trans (Kp.alloc _ _)).trans (Kp.alloc _ _) | with_reducible exact Kp.drew _ | with_reducible exact Kp.drewN _ _)).trans kk))
                  have L7 := Lib.hid lv
                  clear lv kk
                  go_wp2_with fail
                  refine (C9.out _ _ (K7.out.trans (by first | with_reducible exact Kp.refl _ | with_reducible exact Kp.alloc _ _ | with_reducible exact (Kp.alloc _ _).trans (Kp.alloc _ _) | with_reducible exact ((Kp.alloc _ _).trans (Kp.alloc _ _)).trans (Kp.alloc _ _) | with_reducible exact Kp.drew _ | with_reducible exact Kp.drewN _ _)) (L7.out.kp (by first | with_reducible exact Kp.refl _ | with_reducible exact Kp.alloc _ _ | with_reducible exact (Kp.alloc _ _).trans (Kp.alloc _ _) | with_reducible exact ((Kp.alloc _ _).trans (Kp.alloc _ _)).trans (Kp.alloc _ _) | with_reducible exact Kp.drew _ | with_reducible exact Kp.drewN _ _))).mono ?_
                  rintro e w8 ⟨rfl, kk⟩
                  have K8 := Lib.hid (K7.out.trans ((show Kp w7 _ from (by first | with_reducible exact Kp.refl _ | with_reducible exact Kp.alloc _ _ | with_reducible exact (Kp.alloc _ _).trans (Kp.alloc _ _) | with_reducible exact ((Kp.alloc _ _).trans (Kp.alloc _ _)).trans (Kp.alloc _ _) | with_reducible exact Kp.drew _ | with_reducible exact Kp.drewN _ _)).trans kk))
                  clear kk
                  go_wp2
                  go_ret
                  exact ⟨rfl, K00.out.trans K8.out⟩
              · have hw2 : ww = true := by rw [hw]; cases ol2 <;> cases om2 <;> first | rfl | exact absurd ⟨rfl, rfl⟩ hok
                have e1 : E1 = 8 := by rw [RE1, if_neg (by intro h; exact hok (by simpa using h))]
                subst hw2 e1
                clear RE1 hok hw RE9
                go_wp2_with fail
                refine (CM.out _).mono ?_
                rintro e w7 ⟨b7, rfl, lv, kk⟩
                have K7 := Lib.hid (K6.out.trans ((show Kp wr _ from (by first | with_reducible exact Kp.refl _ | with_reducible exact Kp.alloc _ _ | with_reducible exact (Kp.alloc _ _).trans (Kp.alloc _ _) | with_reducible exact ((Kp.alloc _ _).trans (Kp.alloc _ _)).trans (Kp.alloc _ _) | with_reducible exact Kp.drew _ | with_reducible exact Kp.drewN _ _)).trans kk))
                have L7 := Lib.hid lv
                clear lv kk
                go_wp2_with fail
                refine (C9.out _ _ (K7.out.trans (by first | with_reducible exact Kp.refl _ | with_reducible exact Kp.alloc _ _ | with_reducible exact (Kp.alloc _ _).trans (Kp.alloc _ _) | with_reducible exact ((Kp.alloc _ _).trans (Kp.alloc _ _)).trans (Kp.alloc _ _) | with_reducible exact Kp.drew _ | with_reducible exact Kp.drewN _ _)) (L7.out.kp (by first | with_reducible exact Kp.refl _ | with_reducible exact Kp.alloc _ _ | with_reducible exact (Kp.alloc _ _).trans (Kp.alloc _ _) | with_reducible exact ((Kp.alloc _ _).trans (Kp.alloc _ _)).trans (Kp.alloc _ _) | with_reducible exact Kp.drew _ | with_reducible exact Kp.drewN _ _))).mono ?_
                rintro e w8 ⟨rfl, kk⟩
                have K8 := Lib.hid (K7.out.trans ((show Kp w7 _ from (by first | with_reducible exact Kp.refl _ | with_reducible exact Kp.alloc _ _ | with_reducible exact (Kp.alloc _ _).trans (Kp.alloc _ _) | with_reducible exact ((Kp.alloc _ _).trans (Kp.alloc _ _)).trans (Kp.alloc _ _) | with_reducible exact Kp.drew _ | with_reducible exact Kp.drewN _ _)).trans kk))
                clear kk
                go_wp2
                go_ret
                exact ⟨rfl, K00.out.trans K8.out⟩
end Go.Proofs.YtamdjbpgkiekcaaGreatDoor
