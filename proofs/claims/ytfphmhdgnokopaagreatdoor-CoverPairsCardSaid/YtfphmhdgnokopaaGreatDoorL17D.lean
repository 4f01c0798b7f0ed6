/-
  Layer 17: the walk of CoverPairs.
-/
import Derived.Test.YtfphmhdgnokopaaGreatDoorGCovB
import Derived.Test.YtfphmhdgnokopaaGreatDoorGLeafB
import Derived.LoopTactic
namespace Go.Proofs.YtfphmhdgnokopaaGreatDoor
open Go.RowKit
set_option linter.unusedVariables false
set_option linter.unusedSimpArgs false
/-- a family's first thousand pairs -/
noncomputable def PLc (f : LF) : List R := (pairsF (famR f)).take 1000
def inP (d : Int) (r : R) : Bool := decide (r.1 ≤ d) && decide (d ≤ r.2)
def anyI (d : Int) (P : List R) (j : Nat) : Bool := (P.take j).any (inP d)
def allI (d : Int) (P : List R) (j : Nat) : Bool := (P.take j).all (inP d)
noncomputable def someA (l : List LF) (d : Int) (k : Nat) : Bool := (l.take k).any fun f => anyI d (PLc f) (PLc f).length
noncomputable def allA (l : List LF) (d : Int) (k : Nat) : Bool := (l.take k).all fun f => allI d (PLc f) (PLc f).length
noncomputable def cntA (l : List LF) (k : Nat) : Nat := ((l.take k).map fun f => (PLc f).length).sum
theorem anyI_next {d : Int} {P : List R} {j : Nat} (h : j < P.length) : anyI d P (j + 1) = (anyI d P j || inP d (at_ P j)) := by
  unfold anyI
  rw [take_at P j h, List.any_append]
  simp
theorem allI_next {d : Int} {P : List R} {j : Nat} (h : j < P.length) : allI d P (j + 1) = (allI d P j && inP d (at_ P j)) := by
  unfold allI
  rw [take_at P j h, List.all_append]
  simp
theorem someA_next {l : List LF} {d : Int} {k : Nat} (h : k < l.length) : someA l d (k + 1) = (someA l d k || anyI d (PLc (lat l k)) (PLc (lat l k)).length) := by
  unfold someA
  rw [take_lat l k h, List.any_append]
  simp
theorem allA_next {l : List LF} {d : Int} {k : Nat} (h : k < l.length) : allA l d (k + 1) = (allA l d k && allI d (PLc (lat l k)) (PLc (lat l k)).length) := by
  unfold allA
  rw [take_lat l k h, List.all_append]
  simp
theorem cntA_next {l : List LF} {k : Nat} (h : k < l.length) : cntA l (k + 1) = cntA l k + (PLc (lat l k)).length := by
  unfold cntA
  rw [take_lat l k h, List.map_append, List.sum_append]
  simp
theorem PLc_len (f : LF) : (PLc f).length ≤ 1000 := by unfold PLc; rw [List.length_take]; omega
theorem cntA_le (l : List LF) : ∀ k, cntA l k ≤ 1000 * k := by
  intro k
  induction k with
  | zero => simp [cntA]
  | succ k ih =>
    by_cases h : k < l.length
    · rw [cntA_next h]
      have := PLc_len (lat l k)
      omega
    · have : cntA l (k + 1) = cntA l k := by unfold cntA; rw [List.take_of_length_le (by omega), List.take_of_length_le (by omega)]
      omega
theorem PLc_all {l : List LF} (h : ∀ i, i < l.length → (PLc (lat l i)).length ≠ 1000) : ∀ f ∈ l, PLc f = pairsF (famR f) := by
  intro f hf
  obtain ⟨i, hi, e⟩ := List.mem_iff_getElem.1 hf
  have q := h i hi
  have e2 : lat l i = f := by unfold lat; rw [List.getD_eq_getElem?_getD, List.getElem?_eq_getElem hi]; exact e
  rw [e2] at q
  unfold PLc at q ⊢
  rw [List.length_take] at q
  exact List.take_of_length_le (by omega)
theorem inP_iff (d : Int) (r : R) : inP d r = true ↔ r.1 ≤ d ∧ d ≤ r.2 := by unfold inP; simp
theorem pairs_some {l : List LF} {d : Int} (h : ∀ i, i < l.length → (PLc (lat l i)).length ≠ 1000) : someA l d l.length = posB l d := by
  have hp := PLc_all h
  rw [Bool.eq_iff_iff, posB_pairs]
  unfold someA
  rw [List.take_length, List.any_eq_true]
  constructor
  · rintro ⟨f, hf, g⟩
    unfold anyI at g
    rw [List.take_length, List.any_eq_true] at g
    obtain ⟨⟨S, T⟩, hr, q⟩ := g
    rw [hp f hf, mem_pairs (famR_ok f)] at hr
    exact ⟨f, hf, S, T, hr, (inP_iff d _).1 q⟩
  · rintro ⟨f, hf, S, T, m, q⟩
    refine ⟨f, hf, ?_⟩
    unfold anyI
    rw [List.take_length, List.any_eq_true]
    exact ⟨(S, T), by rw [hp f hf, mem_pairs (famR_ok f)]; exact m, (inP_iff d _).2 q⟩
theorem sum_pos (g : LF → Nat) : ∀ l : List LF, 0 < (l.map g).sum ↔ ∃ f ∈ l, 0 < g f := by
  intro l
  induction l with
  | nil => simp
  | cons f t ih =>
    rw [List.map_cons, List.sum_cons]
    constructor
    · intro h
      by_cases c : 0 < g f
      · exact ⟨f, List.mem_cons_self, c⟩
      · obtain ⟨x, hx, q⟩ := ih.1 (by omega)
        exact ⟨x, List.mem_cons_of_mem _ hx, q⟩
    · rintro ⟨x, hx, q⟩
      rcases List.mem_cons.1 hx with rfl | hx
      · omega
      · have := ih.2 ⟨x, hx, q⟩
        omega
theorem cnt_any {l : List LF} (h : ∀ i, i < l.length → (PLc (lat l i)).length ≠ 1000) : decide (0 < cntA l l.length) = anyB l := by
  have hp := PLc_all h
  rw [Bool.eq_iff_iff, decide_eq_true_eq]
  unfold cntA anyB
  rw [List.take_length, sum_pos, List.any_eq_true]
  constructor
  · rintro ⟨f, hf, q⟩
    refine ⟨f, hf, ?_⟩
    obtain ⟨⟨S, T⟩, hm⟩ := List.exists_mem_of_length_pos q
    rw [hp f hf, mem_pairs (famR_ok f)] at hm
    exact full_of hm
  · rintro ⟨f, hf, q⟩
    refine ⟨f, hf, ?_⟩
    obtain ⟨⟨T, m⟩, _⟩ := days_met (famR_ok f) (full_ne q)
    rw [hp f hf]
    exact List.length_pos_of_mem ((mem_pairs (famR_ok f) _ _).2 m)
theorem pairs_all {l : List LF} {d : Int} (h : ∀ i, i < l.length → (PLc (lat l i)).length ≠ 1000) : cerB l d = (allA l d l.length && decide (0 < cntA l l.length)) := by
  have hp := PLc_all h
  rw [cnt_any h, Bool.eq_iff_iff, cerB_pairs, Bool.and_eq_true, and_comm]
  refine and_congr_left fun _ => ?_
  unfold allA
  rw [List.take_length, List.all_eq_true]
  constructor
  · intro g f hf
    unfold allI
    rw [List.take_length, List.all_eq_true]
    rintro ⟨S, T⟩ hr
    rw [hp f hf, mem_pairs (famR_ok f)] at hr
    exact (inP_iff d _).2 (g f hf S T hr)
  · intro g f hf S T m
    have := g f hf
    unfold allI at this
    rw [List.take_length, List.all_eq_true] at this
    exact (inP_iff d _).1 (this (S, T) (by rw [hp f hf, mem_pairs (famR_ok f)]; exact m))
set_option maxHeartbeats 16000000 in
set_option maxRecDepth 100000 in
theorem cpairs_few (vl : Value) (l : List LF) (day : Int) (w : World) (rl : LeavesAt w vl l) (gl : ∀ f ∈ l, LeafG f) (hday1 : -9223372036854775808 ≤ day) (hday2 : day ≤ 9223372036854775807) (T : Tabs w) (hf : fewL l = false) :
    Calls Tryz.prog 7 #[vl, .int .i64 day] w fun e w' => e = .returned (.bool true) ∧ Kp w w' := by
  have RFW := Lib.hid (fun w1 (kk : Kp w w1) => fewL_any vl l w1 (rl.kp kk))
  rw [hf] at RFW
  obtain ⟨adl, cal, rfl⟩ := rl.slice
  obtain ⟨W0, hW⟩ : ∃ W0, W0 = w := ⟨_, rfl⟩
  subst hW
  have K00 := Lib.hid (Kp.refl W0)
  have K0 := Lib.hid (Kp.refl W0)
  have AW := Lib.hid (fun w1 (kk : Kp W0 w1) => awake17 w1 (T.kp (K00.out.trans kk)))
  have FW := Lib.hid (fun w1 (kk : Kp W0 w1) => RFW.out w1 (K00.out.trans kk))
  clear rl gl T
  go_enter Tryz.func7, Tryz.ntmps7
  go_wp2_with fail
  refine (AW.out _ (by first | with_reducible exact K0.out | with_reducible exact K0.out.trans (Kp.alloc _ _) | with_reducible exact (K0.out.trans (Kp.alloc _ _)).trans (Kp.alloc _ _) | with_reducible exact ((K0.out.trans (Kp.alloc _ _)).trans (Kp.alloc _ _)).trans (Kp.alloc _ _) | with_reducible exact K0.out.trans (Kp.drew _) | with_reducible exact K0.out.trans (Kp.drewN _ _))).mono ?_
  rintro e w1 ⟨rfl, kk⟩
  have K1 := Lib.hid ((show Kp W0 _ from (by first | with_reducible exact K0.out | with_reducible exact K0.out.trans (Kp.alloc _ _) | with_reducible exact (K0.out.trans (Kp.alloc _ _)).trans (Kp.alloc _ _) | with_reducible exact ((K0.out.trans (Kp.alloc _ _)).trans (Kp.alloc _ _)).trans (Kp.alloc _ _) | with_reducible exact K0.out.trans (Kp.drew _) | with_reducible exact K0.out.trans (Kp.drewN _ _))).trans kk)
  clear kk
  go_wp2_with fail
  refine (FW.out _ (by first | with_reducible exact K1.out | with_reducible exact K1.out.trans (Kp.alloc _ _) | with_reducible exact (K1.out.trans (Kp.alloc _ _)).trans (Kp.alloc _ _) | with_reducible exact ((K1.out.trans (Kp.alloc _ _)).trans (Kp.alloc _ _)).trans (Kp.alloc _ _) | with_reducible exact K1.out.trans (Kp.drew _) | with_reducible exact K1.out.trans (Kp.drewN _ _))).mono ?_
  rintro e w2 ⟨rfl, kk⟩
  have K2 := Lib.hid ((show Kp W0 _ from (by first | with_reducible exact K1.out | with_reducible exact K1.out.trans (Kp.alloc _ _) | with_reducible exact (K1.out.trans (Kp.alloc _ _)).trans (Kp.alloc _ _) | with_reducible exact ((K1.out.trans (Kp.alloc _ _)).trans (Kp.alloc _ _)).trans (Kp.alloc _ _) | with_reducible exact K1.out.trans (Kp.drew _) | with_reducible exact K1.out.trans (Kp.drewN _ _))).trans kk)
  clear kk
  go_wp2
  go_ret
  exact ⟨rfl, K00.out.trans K2.out⟩
set_option maxHeartbeats 16000000 in
set_option maxRecDepth 100000 in
theorem cpairs_main (vl : Value) (l : List LF) (day : Int) (w : World) (rl : LeavesAt w vl l) (gl : ∀ f ∈ l, LeafG f) (hday1 : -9223372036854775808 ≤ day) (hday2 : day ≤ 9223372036854775807) (T : Tabs w) (hf : fewL l = true) :
    Calls Tryz.prog 7 #[vl, .int .i64 day] w fun e w' => e = .returned (.bool true) ∧ Kp w w' := by
  have RFW := Lib.hid (fun w1 (kk : Kp w w1) => fewL_any vl l w1 (rl.kp kk))
  rw [hf] at RFW
  obtain ⟨hls, hn⟩ := fewL_ok hf gl
  have R1 := Lib.hid (fun w1 (kk : Kp w w1) => possible_any vl l day w1 (rl.kp kk) hls (T.kp kk))
  have R2 := Lib.hid (fun w1 (kk : Kp w w1) => certain_any vl l day w1 (rl.kp kk) hls (T.kp kk) hday1 hday2)
  have F1 := Lib.hid (fun h => pairs_some (l := l) (d := day) h)
  have F2 := Lib.hid (fun h => pairs_all (l := l) (d := day) h)
  have N1 := Lib.hid (fun k (h : k < l.length) => someA_next (d := day) h)
  have N2 := Lib.hid (fun k (h : k < l.length) => allA_next (d := day) h)
  have N3 := Lib.hid (fun k (h : k < l.length) => cntA_next h)
  have NL := Lib.hid (fun k => cntA_le l k)
  have Z1 := Lib.hid (show someA l day 0 = false from rfl)
  have Z2 := Lib.hid (show allA l day 0 = true from rfl)
  have Z3 := Lib.hid (show cntA l 0 = 0 from rfl)
  have HL := Lib.hid hls
  have HV := Lib.hid rl
  have TT := Lib.hid T
  generalize someA l day = A1 at *
  generalize allA l day = A2 at *
  generalize cntA l = A3 at *
  generalize posB l day = pb at *
  generalize cerB l day = cb at *
  obtain ⟨adl, cal, rfl⟩ := rl.slice
  obtain ⟨W0, hW⟩ : ∃ W0, W0 = w := ⟨_, rfl⟩
  subst hW
  have K00 := Lib.hid (Kp.refl W0)
  have K0 := Lib.hid (Kp.refl W0)
  have AW := Lib.hid (fun w1 (kk : Kp W0 w1) => awake17 w1 (T.kp (K00.out.trans kk)))
  have FW := Lib.hid (fun w1 (kk : Kp W0 w1) => RFW.out w1 (K00.out.trans kk))
  have CP := Lib.hid (fun w1 (kk : Kp W0 w1) => R1.out w1 (K00.out.trans kk))
  have CC := Lib.hid (fun w1 (kk : Kp W0 w1) => R2.out w1 (K00.out.trans kk))
  clear rl gl T R1 R2 RFW hls hf
  go_enter Tryz.func7, Tryz.ntmps7
  go_wp2_with fail
  refine (AW.out _ (by first | with_reducible exact K0.out | with_reducible exact K0.out.trans (Kp.alloc _ _) | with_reducible exact (K0.out.trans (Kp.alloc _ _)).trans (Kp.alloc _ _) | with_reducible exact ((K0.out.trans (Kp.alloc _ _)).trans (Kp.alloc _ _)).trans (Kp.alloc _ _) | with_reducible exact K0.out.trans (Kp.drew _) | with_reducible exact K0.out.trans (Kp.drewN _ _))).mono ?_
  rintro e w1 ⟨rfl, kk⟩
  have K1 := Lib.hid ((show Kp W0 _ from (by first | with_reducible exact K0.out | with_reducible exact K0.out.trans (Kp.alloc _ _) | with_reducible exact (K0.out.trans (Kp.alloc _ _)).trans (Kp.alloc _ _) | with_reducible exact ((K0.out.trans (Kp.alloc _ _)).trans (Kp.alloc _ _)).trans (Kp.alloc _ _) | with_reducible exact K0.out.trans (Kp.drew _) | with_reducible exact K0.out.trans (Kp.drewN _ _))).trans kk)
  clear kk
  go_wp2_with fail
  refine (FW.out _ (by first | with_reducible exact K1.out | with_reducible exact K1.out.trans (Kp.alloc _ _) | with_reducible exact (K1.out.trans (Kp.alloc _ _)).trans (Kp.alloc _ _) | with_reducible exact ((K1.out.trans (Kp.alloc _ _)).trans (Kp.alloc _ _)).trans (Kp.alloc _ _) | with_reducible exact K1.out.trans (Kp.drew _) | with_reducible exact K1.out.trans (Kp.drewN _ _))).mono ?_
  rintro e w2 ⟨rfl, kk⟩
  have K2 := Lib.hid ((show Kp W0 _ from (by first | with_reducible exact K1.out | with_reducible exact K1.out.trans (Kp.alloc _ _) | with_reducible exact (K1.out.trans (Kp.alloc _ _)).trans (Kp.alloc _ _) | with_reducible exact ((K1.out.trans (Kp.alloc _ _)).trans (Kp.alloc _ _)).trans (Kp.alloc _ _) | with_reducible exact K1.out.trans (Kp.drew _) | with_reducible exact K1.out.trans (Kp.drewN _ _))).trans kk)
  clear kk
  go_wp2
  go_loopw [6, 7, 8, 9] (fun w x y i wr => ∃ k : Nat, k ≤ l.length ∧ i = .int .i64 k ∧ w = .bool (A1 k) ∧ x = .bool (A2 k) ∧ y = .int .i64 (A3 k) ∧ Hid (∀ i, i < k → (PLc (lat l i)).length ≠ 1000) ∧ Hid (Kp W0 wr)) (fun _ _ _ i _ => l.length - (intOf i).toNat)
  case atStart => exact ⟨0, Nat.zero_le _, rfl, by rw [Z1.out], by rw [Z2.out], by rw [Z3.out]; rfl, Lib.hid (fun i h => by omega), K2⟩
  case round =>
    obtain ⟨k, hk, rfl, rfl, rfl, rfl, FA, J⟩ := hrel
    by_cases hlt : k < l.length
    · rcases HV.out.kp (K00.out.trans J.out) with ⟨_, _, _, e⟩ | ⟨b0, off, cap, ev, hc, hmx, hx⟩
      · rw [e] at hlt; simp at hlt
      cases ev
      obtain ⟨va, vb, d0, d1, d2, d3, ra, rb⟩ := hx k hlt
      have LOK := HL.out _ (lat_mem hlt)
      obtain ⟨f, hf⟩ : ∃ f, lat l k = f := ⟨_, rfl⟩
      rw [hf] at d0 d1 ra rb
      (try rw [hf] at LOK)
      obtain ⟨sp, u, a, b⟩ := f
      simp only at d0 d1 ra rb
      (try simp only at LOK)
      obtain ⟨aa, ca, rfl⟩ := ra.slice
      obtain ⟨ab, cb, rfl⟩ := rb.slice
      have HF := Lib.hid hf
      have z1 : (k : Int) < (l.length : Int) := by omega
      have z2 : (0 : Int) ≤ (k : Int) := by omega
      clear hx hc hmx hf
      have n1 := N1.out k hlt
      have n2 := N2.out k hlt
      have n3 := N3.out k hlt
      have cl : A3 k ≤ 12000 := by have := NL.out k; omega
      have ok : LeafOk wr ⟨sp, u, a, b⟩ _ _ := ⟨ra, rb, LOK.1, LOK.2.1, LOK.2.2.1, LOK.2.2.2⟩
      have C := Lib.hid (fun w1 (kk : Kp wr w1) => leafPairs_any ⟨sp, u, a, b⟩ _ _ 1000 w1 (ok.kp kk) (TT.out.kp (K00.out.trans (J.out.trans kk))))
      rw [show (min 1000 1000 : Int).toNat = 1000 by decide, show (pairsF (famR ⟨sp, u, a, b⟩)).take 1000 = PLc (lat l k) by rw [HF.out]; rfl] at C
      simp only [leafV] at C
      have MM := fun (h : decide ((PLc (lat l k)).length = 1000) = false) => of_decide_eq_false h
      have LP := PLc_len (lat l k)
      generalize hP : PLc (lat l k) = P at *
      have HP := Lib.hid hP
      clear hP
      have q1 : ((P.length : Int) == 1000) = decide (P.length = 1000) := by
        by_cases h : P.length = 1000
        · rw [decide_eq_true h, h]; rfl
        · rw [decide_eq_false h]; exact beq_eq_false_iff_ne.2 (by omega)
      obtain ⟨B1, hB1⟩ : ∃ B : Nat → Bool, B = fun j => (A1 k || anyI day P j) := ⟨_, rfl⟩
      obtain ⟨B2, hB2⟩ : ∃ B : Nat → Bool, B = fun j => (A2 k && allI day P j) := ⟨_, rfl⟩
      have Y1 := Lib.hid (show B1 0 = A1 k by rw [hB1]; simp [anyI])
      have Y2 := Lib.hid (show B2 0 = A2 k by rw [hB2]; simp [allI])
      have X1 := Lib.hid (fun j (h : j < P.length) => show B1 (j + 1) = (B1 j || inP day (at_ P j)) by rw [hB1]; simp only; rw [anyI_next h, Bool.or_assoc])
      have X2 := Lib.hid (fun j (h : j < P.length) => show B2 (j + 1) = (B2 j && inP day (at_ P j)) by rw [hB2]; simp only; rw [allI_next h, Bool.and_assoc])
      have U1 := Lib.hid (show A1 (k + 1) = B1 P.length by rw [hB1]; exact n1)
      have U2 := Lib.hid (show A2 (k + 1) = B2 P.length by rw [hB2]; exact n2)
      have U3 := Lib.hid n3
      have MMH := Lib.hid MM
      clear hB1 hB2 n1 n2 n3 ra rb ok MM
      have KR := Lib.hid (Kp.refl wr)
      go_wp2_with fail
      refine (C.out _ (by first | with_reducible exact KR.out | with_reducible exact KR.out.trans (Kp.alloc _ _) | with_reducible exact (KR.out.trans (Kp.alloc _ _)).trans (Kp.alloc _ _) | with_reducible exact ((KR.out.trans (Kp.alloc _ _)).trans (Kp.alloc _ _)).trans (Kp.alloc _ _) | with_reducible exact KR.out.trans (Kp.drew _) | with_reducible exact KR.out.trans (Kp.drewN _ _))).mono ?_
      rintro e w8 ⟨v, rfl, own, kk⟩
      obtain ⟨ad1, cp1, rfl⟩ := own_slice own
      have RR := Lib.hid (runsAt_own own)
      have J1 := Lib.hid (J.out.trans ((show Kp wr _ from (by first | with_reducible exact KR.out | with_reducible exact KR.out.trans (Kp.alloc _ _) | with_reducible exact (KR.out.trans (Kp.alloc _ _)).trans (Kp.alloc _ _) | with_reducible exact ((KR.out.trans (Kp.alloc _ _)).trans (Kp.alloc _ _)).trans (Kp.alloc _ _) | with_reducible exact KR.out.trans (Kp.drew _) | with_reducible exact KR.out.trans (Kp.drewN _ _))).trans kk))
      have Z8 := Lib.hid (Kp.refl w8)
      clear kk own d0 d1 d2 d3
      generalize hmm : decide (P.length = 1000) = m at *
      cases m with
      | true =>
        clear hmm
        go_wp2
        go_ret
        exact ⟨rfl, K00.out.trans J1.out⟩
      | false =>
        have MM := Lib.hid (of_decide_eq_false hmm)
        clear hmm MMH
        go_wp2
        go_loopw [6, 7, 11] (fun w x i wr => ∃ j : Nat, j ≤ P.length ∧ i = .int .i64 j ∧ w = .bool (B1 j) ∧ x = .bool (B2 j) ∧ Hid (Kp w8 wr)) (fun _ _ i _ => P.length - (intOf i).toNat)
        case atStart => exact ⟨0, Nat.zero_le _, rfl, by rw [Y1.out], by rw [Y2.out], Z8⟩
        case round =>
          obtain ⟨j, hj, rfl, rfl, rfl, JJ⟩ := hrel
          by_cases hjt : j < P.length
          · rcases RR.out.kp JJ.out with ⟨_, _, _, e⟩ | ⟨b1, of1, cap1, ev, hc, hmx, hx⟩
            · rw [e] at hjt; simp at hjt
            cases ev
            obtain ⟨t1, t2⟩ := hx j hjt
            have M1 := X1.out j hjt
            have M2 := X2.out j hjt
            unfold inP at M1 M2
            obtain ⟨px, py, ee⟩ : ∃ x y, at_ P j = (x, y) := ⟨_, _, rfl⟩
            rw [ee] at t1 t2 M1 M2
            simp only at t1 t2 M1 M2
            have MH := Lib.hid (And.intro M1 M2)
            have z3 : (j : Int) < (P.length : Int) := by omega
            have z4 : (0 : Int) ≤ (j : Int) := by omega
            obtain ⟨q1, hq1⟩ : ∃ q, decide (px ≤ day) = q := ⟨_, rfl⟩
            obtain ⟨q2, hq2⟩ : ∃ q, decide (day ≤ py) = q := ⟨_, rfl⟩
            rw [hq1, hq2] at MH
            clear hx hc hmx ee M1 M2
            cases h1 : B1 j <;> cases h2 : B2 j <;> cases q1 <;> cases q2
            all_goals
              have M5 := MH.out
              rw [h1, h2] at M5
              have MI := Lib.hid M5
              clear M5 MH h1 h2
              go_wp2
              go_roundw
              case rel => exact ⟨j + 1, by omega, by go_num, by rw [MI.out.1]; first | rfl | simp, by rw [MI.out.2]; first | rfl | simp, JJ⟩
              case measure => simp [intOf]; omega
          · obtain rfl : j = P.length := by omega
            go_wp2
            go_roundw
            case rel => exact ⟨k + 1, by omega, by go_num, by rw [U1.out], by rw [U2.out], by rw [U3.out]; exact congrArg (Value.int .i64) (by omega), Lib.hid (fun i hi => by
              by_cases c : i < k
              · exact FA.out i c
              · obtain rfl : i = k := by omega
                rw [HP.out]; exact MM.out), Lib.hid (J1.out.trans JJ.out)⟩
            case measure => simp [intOf]; omega
    · obtain rfl : k = l.length := by omega
      have e1 := F1.out FA.out
      have e2 := F2.out FA.out
      rw [e1]
      obtain ⟨q, hq⟩ : ∃ q, A2 l.length = q := ⟨_, rfl⟩
      obtain ⟨z, hz⟩ : ∃ z, decide (0 < A3 l.length) = z := ⟨_, rfl⟩
      have hz2 : decide ((0 : Int) < (A3 l.length : Int)) = z := by
        rw [← hz]
        by_cases h : 0 < A3 l.length
        · rw [decide_eq_true h, decide_eq_true (by omega)]
        · rw [decide_eq_false h, decide_eq_false (by omega)]
      rw [hq, hz] at e2
      rw [hq]
      subst e2
      clear e1 hq N1 N2 N3 NL F1 F2 Z1 Z2 Z3 FA
      cases q <;> cases z <;> cases pb
      all_goals
        go_wp2_with fail
        refine (CP.out _ (by first | with_reducible exact J.out | with_reducible exact J.out.trans (Kp.alloc _ _) | with_reducible exact (J.out.trans (Kp.alloc _ _)).trans (Kp.alloc _ _) | with_reducible exact ((J.out.trans (Kp.alloc _ _)).trans (Kp.alloc _ _)).trans (Kp.alloc _ _) | with_reducible exact J.out.trans (Kp.drew _) | with_reducible exact J.out.trans (Kp.drewN _ _))).mono ?_
        rintro e w3 ⟨rfl, kk⟩
        have K3 := Lib.hid ((show Kp W0 _ from (by first | with_reducible exact J.out | with_reducible exact J.out.trans (Kp.alloc _ _) | with_reducible exact (J.out.trans (Kp.alloc _ _)).trans (Kp.alloc _ _) | with_reducible exact ((J.out.trans (Kp.alloc _ _)).trans (Kp.alloc _ _)).trans (Kp.alloc _ _) | with_reducible exact J.out.trans (Kp.drew _) | with_reducible exact J.out.trans (Kp.drewN _ _))).trans kk)
        clear kk
        go_wp2_with fail
        refine (CC.out _ (by first | with_reducible exact K3.out | with_reducible exact K3.out.trans (Kp.alloc _ _) | with_reducible exact (K3.out.trans (Kp.alloc _ _)).trans (Kp.alloc _ _) | with_reducible exact ((K3.out.trans (Kp.alloc _ _)).trans (Kp.alloc _ _)).trans (Kp.alloc _ _) | with_reducible exact K3.out.trans (Kp.drew _) | with_reducible exact K3.out.trans (Kp.drewN _ _))).mono ?_
        rintro e w4 ⟨rfl, kk⟩
        have K4 := Lib.hid ((show Kp W0 _ from (by first | with_reducible exact K3.out | with_reducible exact K3.out.trans (Kp.alloc _ _) | with_reducible exact (K3.out.trans (Kp.alloc _ _)).trans (Kp.alloc _ _) | with_reducible exact ((K3.out.trans (Kp.alloc _ _)).trans (Kp.alloc _ _)).trans (Kp.alloc _ _) | with_reducible exact K3.out.trans (Kp.drew _) | with_reducible exact K3.out.trans (Kp.drewN _ _))).trans kk)
        clear kk
        go_wp2
        go_ret
        exact ⟨rfl, K00.out.trans K4.out⟩
theorem coverPairs_walk (vl : Value) (l : List LF) (day : Int) (w : World) (rl : LeavesAt w vl l) (gl : ∀ f ∈ l, LeafG f) (h1 : -9223372036854775808 ≤ day) (h2 : day ≤ 9223372036854775807) (T : Tabs w) :
    Calls Tryz.prog 7 #[vl, .int .i64 day] w fun e w' => e = .returned (.bool true) ∧ Kp w w' := by
  rcases Bool.eq_false_or_eq_true (fewL l) with hf | hf
  · exact cpairs_main vl l day w rl gl h1 h2 T hf
  · exact cpairs_few vl l day w rl gl h1 h2 T hf
end Go.Proofs.YtfphmhdgnokopaaGreatDoor
