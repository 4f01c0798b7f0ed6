/-
  Layer 16: the walk of EnvMet.
-/
import Derived.Test.YtbahhgpaafgpoaaDoorGEnv
import Derived.Test.YtbahhgpaafgpoaaDoorGLeafB
import Derived.LoopTactic
namespace Go.Proofs.YtbahhgpaafgpoaaDoor
open Go.RowKit
set_option linter.unusedVariables false
set_option linter.unusedSimpArgs false
/-- a family's first thousand pairs -/
noncomputable def PL (f : LF) : List R := (pairsF (famR f)).take 1000
def anyE (P : List R) (g : R → Int) (d : Int) (j : Nat) : Bool := (P.take j).any fun r => g r == d
theorem anyE_next {P : List R} {g : R → Int} {d : Int} {j : Nat} (h : j < P.length) : anyE P g d (j + 1) = (anyE P g d j || (g (at_ P j) == d)) := by
  unfold anyE
  rw [take_at P j h, List.any_append]
  simp
noncomputable def metA (s : Bool) (g : R → Int) (d : Int) (l : List LF) (k : Nat) : Bool := s || (l.take k).any fun f => anyE (PL f) g d (PL f).length
theorem metA_next (s : Bool) (g : R → Int) (d : Int) {l : List LF} {k : Nat} (h : k < l.length) : metA s g d l (k + 1) = (metA s g d l k || anyE (PL (lat l k)) g d (PL (lat l k)).length) := by
  unfold metA
  rw [take_lat l k h, List.any_append, Bool.or_assoc]
  simp
theorem metA_yes {s : Bool} {g : R → Int} {d : Int} {l : List LF} (h : s = true ∨ ∃ f ∈ l, ∃ r, g r = d ∧ hasF (famR f) r.1 r.2 = true) (hl : ∀ i, i < l.length → (PL (lat l i)).length ≠ 1000) : metA s g d l l.length = true := by
  unfold metA
  rcases h with h | ⟨f, hf, r, hr, hh⟩
  · rw [h]; rfl
  · rw [Bool.or_eq_true]
    right
    rw [List.take_length, List.any_eq_true]
    refine ⟨f, hf, ?_⟩
    unfold anyE
    rw [List.take_length, List.any_eq_true]
    refine ⟨r, ?_, by rw [beq_iff_eq]; exact hr⟩
    obtain ⟨i, hi, e⟩ := List.mem_iff_getElem.1 hf
    have q := hl i hi
    have e2 : lat l i = f := by unfold lat; rw [List.getD_eq_getElem?_getD, List.getElem?_eq_getElem hi]; exact e
    rw [e2] at q
    unfold PL at q ⊢
    rw [List.length_take] at q
    rw [List.take_of_length_le (by omega)]
    exact (mem_pairs (famR_ok f) r.1 r.2).2 hh
set_option maxHeartbeats 16000000 in
set_option maxRecDepth 100000 in
theorem emet_few (vl : Value) (l : List LF) (w : World) (rl : LeavesAt w vl l) (gl : ∀ f ∈ l, LeafG f) (T : Tabs w) (hf : fewL l = false) :
    Calls Tryd.prog 7 #[vl] w fun e w' => e = .returned (.bool true) ∧ Kp w w' := by
  have RFW := Lib.hid (fun w1 (kk : Kp w w1) => fewL_any vl l w1 (rl.kp kk))
  rw [hf] at RFW
  obtain ⟨adl, cal, rfl⟩ := rl.slice
  obtain ⟨W0, hW⟩ : ∃ W0, W0 = w := ⟨_, rfl⟩
  subst hW
  have K00 := Lib.hid (Kp.refl W0)
  have K0 := Lib.hid (Kp.refl W0)
  have AW := Lib.hid (fun w1 (kk : Kp W0 w1) => awake16 w1 (T.kp (K00.out.trans kk)))
  have FW := Lib.hid (fun w1 (kk : Kp W0 w1) => RFW.out w1 (K00.out.trans kk))
  clear rl gl T
  go_enter Tryd.func7, Tryd.ntmps7
  go_wp2_with fail
  refine (AW.out _ (by first | with_reducible exact K0.out | with_reducible exact K0.out.trans (Kp.alloc _ _) | with_reducible exact (K0.out.trans (Kp.alloc _ _)).trans (Kp.alloc _ _) | with_reducible exact ((K0.out.trans (Kp.alloc _ _)).trans (Kp.alloc _ _)).trans (Kp.alloc _ _) | with_reducible exact K0.out.trans (Kp.drew _) | with_reducible exact K0.out.trans (Kp.drewN _ _))).mono ?_
  rintro e w1 ⟨rfl, kk⟩
  have K1 := Lib.hid ((show Kp W0 _ from (by first | with_reducible exact K0.out | with_reducible exact K0.out.trans (Kp.alloc _ _) | with_reducible exact (K0.out.trans (Kp.alloc _ _)).trans (Kp.alloc _ _) | with_reducible exact ((K0.out.trans (Kp.alloc _ _)).trans (Kp.alloc _ _)).trans (Kp.alloc _ _) | with_reducible exact K0.out.trans (Kp.drew _) | with_reducible exact K0.out.trans (Kp.drewN _ _))).trans kk)
  clear kk
  go_wp2_with fail
  refine (FW.out _ (by first | with_reducible exact K1.out | with_reducible exact K1.out.trans (Kp.alloc _ _) | with_reducible exact (K1.out.trans (Kp.alloc _ _)).trans (Kp.alloc _ _) | with_reducible exact ((K1.out.trans (Kp.alloc _ _)).trans (Kp.alloc _ _)).trans (Kp.alloc _ _) | with_reducible exact K1.out.trans (Kp.drew _) | with_reducible exact K1.out.trans (Kp.drewN _ _))).mono ?_
  rintro e w2 ⟨rfl, kk⟩
  have K2 := Lib.hid ((show Kp W0 _ from (by first | with_reducible exact K1.out | with_reducible exact K1.out.trans (Kp.alloc _ _) | with_reducible exact (K1.out.trans (Kp.alloc _ _)).trans (Kp.alloc _ _) | with_reducible exact ((K1.out.trans (Kp.alloc _ _)).trans (Kp.alloc _ _)).trans (Kp.alloc _ _) | with_reducible exact K1.out.trans (Kp.drew _) | with_reducible exact K1.out.trans (Kp.drewN _ _))).trans kk)
  clear kk
  go_wp2
  go_ret
  exact ⟨rfl, K00.out.trans K2.out⟩
set_option maxHeartbeats 16000000 in
set_option maxRecDepth 100000 in
theorem emet_main (vl : Value) (l : List LF) (w : World) (rl : LeavesAt w vl l) (gl : ∀ f ∈ l, LeafG f) (T : Tabs w) (hf : fewL l = true) (s0 : Bool) (en : Int) (hs : s0 = (en != 0)) (he1 : (envF dLS min l).2 = en) (he2 : (envF dGE max l).2 = en) (he3 : (envF dLE min l).2 = en) (he4 : (envF dGS max l).2 = en) (hm1 : ∀ s : Bool, s = (en != 0) → (s = true ∨ ∃ f ∈ l, ∃ r : R, Prod.fst r = (envF dLS min l).1 ∧ hasF (famR f) r.1 r.2 = true)) (hm2 : ∀ s : Bool, s = (en != 0) → (s = true ∨ ∃ f ∈ l, ∃ r : R, Prod.snd r = (envF dGE max l).1 ∧ hasF (famR f) r.1 r.2 = true)) (hm3 : ∀ s : Bool, s = (en != 0) → (s = true ∨ ∃ f ∈ l, ∃ r : R, Prod.snd r = (envF dLE min l).1 ∧ hasF (famR f) r.1 r.2 = true)) (hm4 : ∀ s : Bool, s = (en != 0) → (s = true ∨ ∃ f ∈ l, ∃ r : R, Prod.fst r = (envF dGS max l).1 ∧ hasF (famR f) r.1 r.2 = true)) :
    Calls Tryd.prog 7 #[vl] w fun e w' => e = .returned (.bool true) ∧ Kp w w' := by
  have RFW := Lib.hid (fun w1 (kk : Kp w w1) => fewL_any vl l w1 (rl.kp kk))
  rw [hf] at RFW
  obtain ⟨hls, hn⟩ := fewL_ok hf gl
  have R1 := Lib.hid (fun w1 (kk : Kp w w1) => envEarliest_any vl l w1 (rl.kp kk) hls (T.kp kk))
  have R2 := Lib.hid (fun w1 (kk : Kp w w1) => envLatest_any vl l w1 (rl.kp kk) hls (T.kp kk))
  have R3 := Lib.hid (fun w1 (kk : Kp w w1) => envFirstEnd_any vl l w1 (rl.kp kk) hls (T.kp kk))
  have R4 := Lib.hid (fun w1 (kk : Kp w w1) => envLastStart_any vl l w1 (rl.kp kk) hls (T.kp kk))
  have F1 := Lib.hid (fun h => metA_yes (s := s0) (g := Prod.fst) (d := (envF dLS min l).1) (l := l) (hm1 s0 hs) h)
  have F2 := Lib.hid (fun h => metA_yes (s := s0) (g := Prod.snd) (d := (envF dGE max l).1) (l := l) (hm2 s0 hs) h)
  have F3 := Lib.hid (fun h => metA_yes (s := s0) (g := Prod.snd) (d := (envF dLE min l).1) (l := l) (hm3 s0 hs) h)
  have F4 := Lib.hid (fun h => metA_yes (s := s0) (g := Prod.fst) (d := (envF dGS max l).1) (l := l) (hm4 s0 hs) h)
  have N1 := Lib.hid (fun k (h : k < l.length) => metA_next s0 Prod.fst (envF dLS min l).1 h)
  have Z1 := Lib.hid (show metA s0 Prod.fst (envF dLS min l).1 l 0 = s0 by unfold metA; simp)
  have N2 := Lib.hid (fun k (h : k < l.length) => metA_next s0 Prod.snd (envF dGE max l).1 h)
  have Z2 := Lib.hid (show metA s0 Prod.snd (envF dGE max l).1 l 0 = s0 by unfold metA; simp)
  have N3 := Lib.hid (fun k (h : k < l.length) => metA_next s0 Prod.snd (envF dLE min l).1 h)
  have Z3 := Lib.hid (show metA s0 Prod.snd (envF dLE min l).1 l 0 = s0 by unfold metA; simp)
  have N4 := Lib.hid (fun k (h : k < l.length) => metA_next s0 Prod.fst (envF dGS max l).1 h)
  have Z4 := Lib.hid (show metA s0 Prod.fst (envF dGS max l).1 l 0 = s0 by unfold metA; simp)
  clear hm1 hm2 hm3 hm4
  have HL := Lib.hid hls
  have HV := Lib.hid rl
  have TT := Lib.hid T
  rw [show envF dLS min l = ((envF dLS min l).1, en) by rw [← he1]] at R1
  rw [show envF dGE max l = ((envF dGE max l).1, en) by rw [← he2]] at R2
  rw [show envF dLE min l = ((envF dLE min l).1, en) by rw [← he3]] at R3
  rw [show envF dGS max l = ((envF dGS max l).1, en) by rw [← he4]] at R4
  simp only at R1 R2 R3 R4
  clear he1 he2 he3 he4
  generalize metA s0 Prod.fst (envF dLS min l).1 l = A1 at *
  generalize (envF dLS min l).1 = x1 at *
  generalize metA s0 Prod.snd (envF dGE max l).1 l = A2 at *
  generalize (envF dGE max l).1 = x2 at *
  generalize metA s0 Prod.snd (envF dLE min l).1 l = A3 at *
  generalize (envF dLE min l).1 = x3 at *
  generalize metA s0 Prod.fst (envF dGS max l).1 l = A4 at *
  generalize (envF dGS max l).1 = x4 at *
  obtain ⟨adl, cal, rfl⟩ := rl.slice
  obtain ⟨W0, hW⟩ : ∃ W0, W0 = w := ⟨_, rfl⟩
  subst hW
  have K00 := Lib.hid (Kp.refl W0)
  have K0 := Lib.hid (Kp.refl W0)
  have AW := Lib.hid (fun w1 (kk : Kp W0 w1) => awake16 w1 (T.kp (K00.out.trans kk)))
  have FW := Lib.hid (fun w1 (kk : Kp W0 w1) => RFW.out w1 (K00.out.trans kk))
  have C1 := Lib.hid (fun w1 (kk : Kp W0 w1) => R1.out w1 (K00.out.trans kk))
  have C2 := Lib.hid (fun w1 (kk : Kp W0 w1) => R2.out w1 (K00.out.trans kk))
  have C3 := Lib.hid (fun w1 (kk : Kp W0 w1) => R3.out w1 (K00.out.trans kk))
  have C4 := Lib.hid (fun w1 (kk : Kp W0 w1) => R4.out w1 (K00.out.trans kk))
  clear rl gl T R1 R2 R3 R4 RFW hls
  have hs1 := hs.symm
  clear hs
  go_enter Tryd.func7, Tryd.ntmps7
  go_wp2_with fail
  refine (AW.out _ (by first | with_reducible exact K0.out | with_reducible exact K0.out.trans (Kp.alloc _ _) | with_reducible exact (K0.out.trans (Kp.alloc _ _)).trans (Kp.alloc _ _) | with_reducible exact ((K0.out.trans (Kp.alloc _ _)).trans (Kp.alloc _ _)).trans (Kp.alloc _ _) | with_reducible exact K0.out.trans (Kp.drew _) | with_reducible exact K0.out.trans (Kp.drewN _ _))).mono ?_
  rintro e w1 ⟨rfl, kk⟩
  have K1 := Lib.hid ((show Kp W0 _ from (by first | with_reducible exact K0.out | with_reducible exact K0.out.trans (Kp.alloc _ _) | with_reducible exact (K0.out.trans (Kp.alloc _ _)).trans (Kp.alloc _ _) | with_reducible exact ((K0.out.trans (Kp.alloc _ _)).trans (Kp.alloc _ _)).trans (Kp.alloc _ _) | with_reducible exact K0.out.trans (Kp.drew _) | with_reducible exact K0.out.trans (Kp.drewN _ _))).trans kk)
  clear kk
  go_wp2_with fail
  refine (FW.out _ (by first | with_reducible exact K1.out | with_reducible exact K1.out.trans (Kp.alloc _ _) | with_reducible exact (K1.out.trans (Kp.alloc _ _)).trans (Kp.alloc _ _) | with_reducible exact ((K1.out.trans (Kp.alloc _ _)).trans (Kp.alloc _ _)).trans (Kp.alloc _ _) | with_reducible exact K1.out.trans (Kp.drew _) | with_reducible exact K1.out.trans (Kp.drewN _ _))).mono ?_
  rintro e w2 ⟨rfl, kk⟩
  have K2 := Lib.hid ((show Kp W0 _ from (by first | with_reducible exact K1.out | with_reducible exact K1.out.trans (Kp.alloc _ _) | with_reducible exact (K1.out.trans (Kp.alloc _ _)).trans (Kp.alloc _ _) | with_reducible exact ((K1.out.trans (Kp.alloc _ _)).trans (Kp.alloc _ _)).trans (Kp.alloc _ _) | with_reducible exact K1.out.trans (Kp.drew _) | with_reducible exact K1.out.trans (Kp.drewN _ _))).trans kk)
  clear kk
  go_wp2_with fail
  refine (C1.out _ (by first | with_reducible exact K2.out | with_reducible exact K2.out.trans (Kp.alloc _ _) | with_reducible exact (K2.out.trans (Kp.alloc _ _)).trans (Kp.alloc _ _) | with_reducible exact ((K2.out.trans (Kp.alloc _ _)).trans (Kp.alloc _ _)).trans (Kp.alloc _ _) | with_reducible exact K2.out.trans (Kp.drew _) | with_reducible exact K2.out.trans (Kp.drewN _ _))).mono ?_
  rintro e w3 ⟨rfl, kk⟩
  have K3 := Lib.hid ((show Kp W0 _ from (by first | with_reducible exact K2.out | with_reducible exact K2.out.trans (Kp.alloc _ _) | with_reducible exact (K2.out.trans (Kp.alloc _ _)).trans (Kp.alloc _ _) | with_reducible exact ((K2.out.trans (Kp.alloc _ _)).trans (Kp.alloc _ _)).trans (Kp.alloc _ _) | with_reducible exact K2.out.trans (Kp.drew _) | with_reducible exact K2.out.trans (Kp.drewN _ _))).trans kk)
  clear kk
  go_wp2_with fail
  refine (C2.out _ (by first | with_reducible exact K3.out | with_reducible exact K3.out.trans (Kp.alloc _ _) | with_reducible exact (K3.out.trans (Kp.alloc _ _)).trans (Kp.alloc _ _) | with_reducible exact ((K3.out.trans (Kp.alloc _ _)).trans (Kp.alloc _ _)).trans (Kp.alloc _ _) | with_reducible exact K3.out.trans (Kp.drew _) | with_reducible exact K3.out.trans (Kp.drewN _ _))).mono ?_
  rintro e w4 ⟨rfl, kk⟩
  have K4 := Lib.hid ((show Kp W0 _ from (by first | with_reducible exact K3.out | with_reducible exact K3.out.trans (Kp.alloc _ _) | with_reducible exact (K3.out.trans (Kp.alloc _ _)).trans (Kp.alloc _ _) | with_reducible exact ((K3.out.trans (Kp.alloc _ _)).trans (Kp.alloc _ _)).trans (Kp.alloc _ _) | with_reducible exact K3.out.trans (Kp.drew _) | with_reducible exact K3.out.trans (Kp.drewN _ _))).trans kk)
  clear kk
  go_wp2_with fail
  refine (C3.out _ (by first | with_reducible exact K4.out | with_reducible exact K4.out.trans (Kp.alloc _ _) | with_reducible exact (K4.out.trans (Kp.alloc _ _)).trans (Kp.alloc _ _) | with_reducible exact ((K4.out.trans (Kp.alloc _ _)).trans (Kp.alloc _ _)).trans (Kp.alloc _ _) | with_reducible exact K4.out.trans (Kp.drew _) | with_reducible exact K4.out.trans (Kp.drewN _ _))).mono ?_
  rintro e w5 ⟨rfl, kk⟩
  have K5 := Lib.hid ((show Kp W0 _ from (by first | with_reducible exact K4.out | with_reducible exact K4.out.trans (Kp.alloc _ _) | with_reducible exact (K4.out.trans (Kp.alloc _ _)).trans (Kp.alloc _ _) | with_reducible exact ((K4.out.trans (Kp.alloc _ _)).trans (Kp.alloc _ _)).trans (Kp.alloc _ _) | with_reducible exact K4.out.trans (Kp.drew _) | with_reducible exact K4.out.trans (Kp.drewN _ _))).trans kk)
  clear kk
  go_wp2_with fail
  refine (C4.out _ (by first | with_reducible exact K5.out | with_reducible exact K5.out.trans (Kp.alloc _ _) | with_reducible exact (K5.out.trans (Kp.alloc _ _)).trans (Kp.alloc _ _) | with_reducible exact ((K5.out.trans (Kp.alloc _ _)).trans (Kp.alloc _ _)).trans (Kp.alloc _ _) | with_reducible exact K5.out.trans (Kp.drew _) | with_reducible exact K5.out.trans (Kp.drewN _ _))).mono ?_
  rintro e w6 ⟨rfl, kk⟩
  have K6 := Lib.hid ((show Kp W0 _ from (by first | with_reducible exact K5.out | with_reducible exact K5.out.trans (Kp.alloc _ _) | with_reducible exact (K5.out.trans (Kp.alloc _ _)).trans (Kp.alloc _ _) | with_reducible exact ((K5.out.trans (Kp.alloc _ _)).trans (Kp.alloc _ _)).trans (Kp.alloc _ _) | with_reducible exact K5.out.trans (Kp.drew _) | with_reducible exact K5.out.trans (Kp.drewN _ _))).trans kk)
  clear kk
  go_wp2
  go_loopw [12, 13, 14, 15, 16] (fun w x y z i wr => ∃ k : Nat, k ≤ l.length ∧ i = .int .i64 k ∧ w = .bool (A1 k) ∧ x = .bool (A2 k) ∧ y = .bool (A3 k) ∧ z = .bool (A4 k) ∧ Hid (∀ i, i < k → (PL (lat l i)).length ≠ 1000) ∧ Hid (Kp W0 wr)) (fun _ _ _ _ i _ => l.length - (intOf i).toNat)
  case atStart => exact ⟨0, Nat.zero_le _, rfl, by first | rw [Z1.out] | simp [Z1.out], by rw [Z2.out], by rw [Z3.out], by rw [Z4.out], Lib.hid (fun i h => by omega), K6⟩
  case round =>
    obtain ⟨k, hk, rfl, rfl, rfl, rfl, rfl, FA, J⟩ := hrel
    by_cases hlt : k < l.length
    · rcases HV.out.kp (K00.out.trans J.out) with ⟨_, _, _, e⟩ | ⟨b0, off, cap, ev, hc, hmx, hx⟩
      · rw [e] at hlt; simp at hlt
      cases ev
      obtain ⟨va, vb, d0, d1, d2, d3, ra, rb⟩ := hx k hlt
      have LOK := HL.out _ (lat_mem hlt)
      obtain ⟨f, hf⟩ : ∃ f, lat l k = f := ⟨_, rfl⟩
      rw [hf] at d0 d1 ra rb
      (try rw [hf] at LOK)
      obtain ⟨sp, u, a, b⟩ := f
      simp only at d0 d1 ra rb
      (try simp only at LOK)
      obtain ⟨aa, ca, rfl⟩ := ra.slice
      obtain ⟨ab, cb, rfl⟩ := rb.slice
      have HF := Lib.hid hf
      have z1 : (k : Int) < (l.length : Int) := by omega
      have z2 : (0 : Int) ≤ (k : Int) := by omega
      clear hx hc hmx hf
      have n1 := N1.out k hlt
      have n2 := N2.out k hlt
      have n3 := N3.out k hlt
      have n4 := N4.out k hlt
      have ok : LeafOk wr ⟨sp, u, a, b⟩ _ _ := ⟨ra, rb, LOK.1, LOK.2.1, LOK.2.2.1, LOK.2.2.2⟩
      have C := Lib.hid (fun w1 (kk : Kp wr w1) => leafPairs_any ⟨sp, u, a, b⟩ _ _ 1000 w1 (ok.kp kk) (TT.out.kp (K00.out.trans (J.out.trans kk))))
      rw [show (min 1000 1000 : Int).toNat = 1000 by decide, show (pairsF (famR ⟨sp, u, a, b⟩)).take 1000 = PL (lat l k) by rw [HF.out]; rfl] at C
      simp only [leafV] at C
      have MM := fun (h : decide ((PL (lat l k)).length = 1000) = false) => of_decide_eq_false h
      have LP : (PL (lat l k)).length ≤ 1000 := by unfold PL; rw [List.length_take]; omega
      generalize hP : PL (lat l k) = P at *
      have HP := Lib.hid hP
      clear hP
      have q1 : ((P.length : Int) == 1000) = decide (P.length = 1000) := by
        by_cases h : P.length = 1000
        · rw [decide_eq_true h, h]; rfl
        · rw [decide_eq_false h]; exact beq_eq_false_iff_ne.2 (by omega)
      have Y1 := Lib.hid (show (A1 k || anyE P Prod.fst x1 0) = A1 k by unfold anyE; simp)
      have X1 := Lib.hid (fun j (h : j < P.length) => show (A1 k || anyE P Prod.fst x1 (j + 1)) = ((A1 k || anyE P Prod.fst x1 j) || (Prod.fst (at_ P j) == x1)) by rw [anyE_next h, Bool.or_assoc])
      have U1 := Lib.hid n1
      --generalize (fun j => (A1 k || anyE P Prod.fst x1 j)) = B1 at *
      have Y2 := Lib.hid (show (A2 k || anyE P Prod.snd x2 0) = A2 k by unfold anyE; simp)
      have X2 := Lib.hid (fun j (h : j < P.length) => show (A2 k || anyE P Prod.snd x2 (j + 1)) = ((A2 k || anyE P Prod.snd x2 j) || (Prod.snd (at_ P j) == x2)) by rw [anyE_next h, Bool.or_assoc])
      have U2 := Lib.hid n2
      --generalize (fun j => (A2 k || anyE P Prod.snd x2 j)) = B2 at *
      have Y3 := Lib.hid (show (A3 k || anyE P Prod.snd x3 0) = A3 k by unfold anyE; simp)
      have X3 := Lib.hid (fun j (h : j < P.length) => show (A3 k || anyE P Prod.snd x3 (j + 1)) = ((A3 k || anyE P Prod.snd x3 j) || (Prod.snd (at_ P j) == x3)) by rw [anyE_next h, Bool.or_assoc])
      have U3 := Lib.hid n3
      --generalize (fun j => (A3 k || anyE P Prod.snd x3 j)) = B3 at *
      have Y4 := Lib.hid (show (A4 k || anyE P Prod.fst x4 0) = A4 k by unfold anyE; simp)
      have X4 := Lib.hid (fun j (h : j < P.length) => show (A4 k || anyE P Prod.fst x4 (j + 1)) = ((A4 k || anyE P Prod.fst x4 j) || (Prod.fst (at_ P j) == x4)) by rw [anyE_next h, Bool.or_assoc])
      have U4 := Lib.hid n4
      --generalize (fun j => (A4 k || anyE P Prod.fst x4 j)) = B4 at *
      obtain ⟨B1, hB1⟩ : ∃ B : Nat → Bool, B = fun j => (A1 k || anyE P Prod.fst x1 j) := ⟨_, rfl⟩
      obtain ⟨B2, hB2⟩ : ∃ B : Nat → Bool, B = fun j => (A2 k || anyE P Prod.snd x2 j) := ⟨_, rfl⟩
      obtain ⟨B3, hB3⟩ : ∃ B : Nat → Bool, B = fun j => (A3 k || anyE P Prod.snd x3 j) := ⟨_, rfl⟩
      obtain ⟨B4, hB4⟩ : ∃ B : Nat → Bool, B = fun j => (A4 k || anyE P Prod.fst x4 j) := ⟨_, rfl⟩
      replace Y1 := Lib.hid (show B1 0 = A1 k by rw [hB1]; exact Y1.out)
      replace X1 := Lib.hid (fun j (h : j < P.length) => show B1 (j + 1) = (B1 j || (Prod.fst (at_ P j) == x1)) by rw [hB1]; exact X1.out j h)
      replace U1 := Lib.hid (show A1 (k + 1) = B1 P.length by rw [hB1]; exact U1.out)
      replace Y2 := Lib.hid (show B2 0 = A2 k by rw [hB2]; exact Y2.out)
      replace X2 := Lib.hid (fun j (h : j < P.length) => show B2 (j + 1) = (B2 j || (Prod.snd (at_ P j) == x2)) by rw [hB2]; exact X2.out j h)
      replace U2 := Lib.hid (show A2 (k + 1) = B2 P.length by rw [hB2]; exact U2.out)
      replace Y3 := Lib.hid (show B3 0 = A3 k by rw [hB3]; exact Y3.out)
      replace X3 := Lib.hid (fun j (h : j < P.length) => show B3 (j + 1) = (B3 j || (Prod.snd (at_ P j) == x3)) by rw [hB3]; exact X3.out j h)
      replace U3 := Lib.hid (show A3 (k + 1) = B3 P.length by rw [hB3]; exact U3.out)
      replace Y4 := Lib.hid (show B4 0 = A4 k by rw [hB4]; exact Y4.out)
      replace X4 := Lib.hid (fun j (h : j < P.length) => show B4 (j + 1) = (B4 j || (Prod.fst (at_ P j) == x4)) by rw [hB4]; exact X4.out j h)
      replace U4 := Lib.hid (show A4 (k + 1) = B4 P.length by rw [hB4]; exact U4.out)
      have MMH := Lib.hid MM
      clear hB1 hB2 hB3 hB4 n1 n2 n3 n4 ra rb ok MM
      have KR := Lib.hid (Kp.refl wr)
      go_wp2_with fail
      refine (C.out _ (by first | with_reducible exact KR.out | with_reducible exact KR.out.trans (Kp.alloc _ _) | with_reducible exact (KR.out.trans (Kp.alloc _ _)).trans (Kp.alloc _ _) | with_reducible exact ((KR.out.trans (Kp.alloc _ _)).trans (Kp.alloc _ _)).trans (Kp.alloc _ _) | with_reducible exact KR.out.trans (Kp.drew _) | with_reducible exact KR.out.trans (Kp.drewN _ _))).mono ?_
      rintro e w8 ⟨v, rfl, own, kk⟩
      obtain ⟨ad1, cp1, rfl⟩ := own_slice own
      have RR := Lib.hid (runsAt_own own)
      have J1 := Lib.hid (J.out.trans ((show Kp wr _ from (by first | with_reducible exact KR.out | with_reducible exact KR.out.trans (Kp.alloc _ _) | with_reducible exact (KR.out.trans (Kp.alloc _ _)).trans (Kp.alloc _ _) | with_reducible exact ((KR.out.trans (Kp.alloc _ _)).trans (Kp.alloc _ _)).trans (Kp.alloc _ _) | with_reducible exact KR.out.trans (Kp.drew _) | with_reducible exact KR.out.trans (Kp.drewN _ _))).trans kk))
      have Z8 := Lib.hid (Kp.refl w8)
      clear kk own d0 d1 d2 d3
      generalize hmm : decide (P.length = 1000) = m at *
      cases m with
      | true =>
        clear hmm
        go_wp2
        go_ret
        exact ⟨rfl, K00.out.trans J1.out⟩
      | false =>
        have MM := Lib.hid (of_decide_eq_false hmm)
        clear hmm MMH
        go_wp2
        go_loopw [12, 13, 14, 15, 18] (fun w x y z i wr => ∃ j : Nat, j ≤ P.length ∧ i = .int .i64 j ∧ w = .bool (B1 j) ∧ x = .bool (B2 j) ∧ y = .bool (B3 j) ∧ z = .bool (B4 j) ∧ Hid (Kp w8 wr)) (fun _ _ _ _ i _ => P.length - (intOf i).toNat)
        case atStart => exact ⟨0, Nat.zero_le _, rfl, by rw [Y1.out], by rw [Y2.out], by rw [Y3.out], by rw [Y4.out], Z8⟩
        case round =>
          obtain ⟨j, hj, rfl, rfl, rfl, rfl, rfl, JJ⟩ := hrel
          by_cases hjt : j < P.length
          · rcases RR.out.kp JJ.out with ⟨_, _, _, e⟩ | ⟨b1, of1, cap1, ev, hc, hmx, hx⟩
            · rw [e] at hjt; simp at hjt
            cases ev
            obtain ⟨t1, t2⟩ := hx j hjt
            have M1 := X1.out j hjt
            have M2 := X2.out j hjt
            have M3 := X3.out j hjt
            have M4 := X4.out j hjt
            obtain ⟨px, py, ee⟩ : ∃ x y, at_ P j = (x, y) := ⟨_, _, rfl⟩
            rw [ee] at t1 t2 M1 M2 M3 M4
            simp only at t1 t2 M1 M2 M3 M4
            have MH := Lib.hid (And.intro M1 (And.intro M2 (And.intro M3 M4)))
            have z3 : (j : Int) < (P.length : Int) := by omega
            have z4 : (0 : Int) ≤ (j : Int) := by omega
            clear hx hc hmx ee M1 M2 M3 M4
            cases h1 : B1 j <;> cases h2 : B2 j <;> cases h3 : B3 j <;> cases h4 : B4 j
            all_goals
              have M5 := MH.out
              rw [h1, h2, h3, h4] at M5
              have MI := Lib.hid M5
              clear M5 MH h1 h2 h3 h4
              go_wp2
              go_roundw
              case rel => exact ⟨j + 1, by omega, by go_num, by rw [MI.out.1]; first | rfl | simp, by rw [MI.out.2.1]; first | rfl | simp, by rw [MI.out.2.2.1]; first | rfl | simp, by rw [MI.out.2.2.2]; first | rfl | simp, JJ⟩
              case measure => simp [intOf]; omega
          · obtain rfl : j = P.length := by omega
            go_wp2
            go_roundw
            case rel => exact ⟨k + 1, by omega, by go_num, by rw [U1.out], by rw [U2.out], by rw [U3.out], by rw [U4.out], Lib.hid (fun i hi => by
              by_cases c : i < k
              · exact FA.out i c
              · obtain rfl : i = k := by omega
                rw [HP.out]; exact MM.out), Lib.hid (J1.out.trans JJ.out)⟩
            case measure => simp [intOf]; omega
    · obtain rfl : k = l.length := by omega
      have e1 := F1.out FA.out
      have e2 := F2.out FA.out
      have e3 := F3.out FA.out
      have e4 := F4.out FA.out
      rw [e1, e2, e3, e4]
      clear e1 e2 e3 e4
      go_wp2
      go_ret
      exact ⟨rfl, K00.out.trans J.out⟩
theorem envMet_walk (vl : Value) (l : List LF) (w : World) (rl : LeavesAt w vl l) (gl : ∀ f ∈ l, LeafG f) (T : Tabs w) :
    Calls Tryd.prog 7 #[vl] w fun e w' => e = .returned (.bool true) ∧ Kp w w' := by
  rcases Bool.eq_false_or_eq_true (fewL l) with hf | hf
  · rcases Bool.eq_false_or_eq_true (anyB l) with ha | ha
    · obtain ⟨a1, _, f1, g1, k1, m1⟩ := env_min dLS l ha
      obtain ⟨a2, _, f2, g2, k2, m2⟩ := env_max dGE l ha
      obtain ⟨a3, _, f3, g3, k3, m3⟩ := env_min dLE l ha
      obtain ⟨a4, _, f4, g4, k4, m4⟩ := env_max dGS l ha
      have e0 : ∀ f : LF, fullB f = true → emptyF (famR f) = false := fun f h => by unfold fullB at h; simpa using h
      obtain ⟨t1, p1⟩ := (days_met (famR_ok f1) (e0 f1 k1)).1
      obtain ⟨t4, p4⟩ := (days_met (famR_ok f4) (e0 f4 k4)).2.1
      obtain ⟨t3, p3⟩ := (days_met (famR_ok f3) (e0 f3 k3)).2.2.1
      obtain ⟨t2, p2⟩ := (days_met (famR_ok f2) (e0 f2 k2)).2.2.2
      exact emet_main vl l w rl gl T hf false 0 rfl a1 a2 a3 a4 (fun s _ => .inr ⟨f1, g1, (_, t1), m1, p1⟩) (fun s _ => .inr ⟨f2, g2, (t2, _), m2, p2⟩) (fun s _ => .inr ⟨f3, g3, (t3, _), m3, p3⟩) (fun s _ => .inr ⟨f4, g4, (_, t4), m4, p4⟩)
    · exact emet_main vl l w rl gl T hf true 9 rfl (by rw [env_nil _ _ _ ha]) (by rw [env_nil _ _ _ ha]) (by rw [env_nil _ _ _ ha]) (by rw [env_nil _ _ _ ha]) (fun s h => .inl (by rw [h]; rfl)) (fun s h => .inl (by rw [h]; rfl)) (fun s h => .inl (by rw [h]; rfl)) (fun s h => .inl (by rw [h]; rfl))
  · exact emet_few vl l w rl gl T hf
end Go.Proofs.YtbahhgpaafgpoaaDoor
