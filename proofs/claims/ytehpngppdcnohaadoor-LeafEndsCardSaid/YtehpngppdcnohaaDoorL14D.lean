/-
  Layer 14: the walk of LeafEnds.
-/
import Derived.Test.YtehpngppdcnohaaDoorGLeafB
import Derived.LoopTactic
namespace Go.Proofs.YtehpngppdcnohaaDoor
open Go.RowKit
set_option linter.unusedVariables false
set_option linter.unusedSimpArgs false
/-- is a day the start, or the end, of one of the first pairs? -/
def inE (P : List R) (g : R → Int) (d : Int) : Nat → Bool
  | 0 => false
  | k + 1 => inE P g d k || (g (at_ P k) == d)
theorem inE_iff (P : List R) (g : R → Int) (d : Int) : ∀ k, k ≤ P.length → (inE P g d k = true ↔ ∃ r ∈ P.take k, g r = d) := by
  intro k
  induction k with
  | zero => intro _; simp [inE]
  | succ k ih =>
    intro hk
    unfold inE
    rw [Bool.or_eq_true, ih (by omega), beq_iff_eq]
    constructor
    · rintro (⟨r, hr, h⟩ | h)
      · exact ⟨r, by rw [take_at P k (by omega)]; exact List.mem_append_left _ hr, h⟩
      · exact ⟨at_ P k, by rw [take_at P k (by omega)]; simp, h⟩
    · rintro ⟨r, hr, h⟩
      rw [take_at P k (by omega), List.mem_append, List.mem_singleton] at hr
      rcases hr with hr | rfl
      · exact .inl ⟨r, hr, h⟩
      · exact .inr h
theorem take_few {α : Type} {l : List α} {n : Nat} (h : (l.take n).length ≠ n) : l.take n = l := by
  rw [List.length_take] at h
  exact List.take_of_length_le (by omega)
theorem start_end {F : Fam} (h : FOK F) (d : Int) (hb : startsB F = true) (hl : ((pairsF F).take 1000).length ≠ 1000) : hasB (startsR F) d = inE ((pairsF F).take 1000) Prod.fst d ((pairsF F).take 1000).length := by
  refine bool_iff ?_
  rw [has_mem (starts_sane h), starts_mem h hb, inE_iff _ _ _ _ (Nat.le_refl _), List.take_length, take_few hl]
  constructor
  · rintro ⟨T, g⟩
    exact ⟨(d, T), (mem_pairs h _ _).2 g, rfl⟩
  · rintro ⟨r, hr, rfl⟩
    exact ⟨r.2, (mem_pairs h _ _).1 hr⟩
theorem end_end {F : Fam} (h : FOK F) (d : Int) (hb : endsB F = true) (hl : ((pairsF F).take 1000).length ≠ 1000) : hasB (endsR F) d = inE ((pairsF F).take 1000) Prod.snd d ((pairsF F).take 1000).length := by
  refine bool_iff ?_
  rw [has_mem (ends_sane h), ends_mem h hb, inE_iff _ _ _ _ (Nat.le_refl _), List.take_length, take_few hl]
  constructor
  · rintro ⟨S, g⟩
    exact ⟨(S, d), (mem_pairs h _ _).2 g, rfl⟩
  · rintro ⟨r, hr, rfl⟩
    exact ⟨r.1, (mem_pairs h _ _).1 hr⟩
theorem starts_no {F : Fam} (hb : startsB F = false) : (startsR F).length = 0 := by
  cases F with
  | units k s =>
    show (edgR (firV k) k s).length = 0
    unfold edgR
    rw [show edgB k s = false from hb]
    rfl
  | span s e =>
    have h := of_decide_eq_false hb
    show (if s.length ≤ 400 then s else []).length = 0
    rw [if_neg h]
    rfl
theorem ends_no {F : Fam} (hb : endsB F = false) : (endsR F).length = 0 := by
  cases F with
  | units k s =>
    show (edgR (lasV k) k s).length = 0
    unfold edgR
    rw [show edgB k s = false from hb]
    rfl
  | span s e =>
    have h := of_decide_eq_false hb
    show (if e.length ≤ 400 then e else []).length = 0
    rw [if_neg h]
    rfl
set_option maxHeartbeats 16000000 in
set_option maxRecDepth 100000 in
theorem ends_few (f : LF) (vaf vbf : Value) (d : Int) (w : World) (raf : RunsAt w vaf f.a) (rbf : RunsAt w vbf f.b) (iaf : I64R f.a) (ibf : I64R f.b) (hd1 : -9223372036854775808 ≤ d) (hd2 : d ≤ 9223372036854775807) (T : Tabs w) (hf : fewB f = false) :
    Calls Tryd.prog 11 #[leafV f vaf vbf, .int .i64 d] w fun e w' => e = .returned (.bool true) ∧ Kp w w' := by
  have RFW := Lib.hid (fun w1 (kk : Kp w w1) => few_any f vaf vbf w1 (raf.kp kk) (rbf.kp kk))
  rw [hf] at RFW
  obtain ⟨spf, uf, af, bf⟩ := f
  obtain ⟨adf, caf, rfl⟩ := raf.slice
  obtain ⟨bdf, cbf, rfl⟩ := rbf.slice
  unfold leafV at *
  simp only at *
  obtain ⟨W0, hW⟩ : ∃ W0, W0 = w.alloc (.cells #[.bool spf, .int .i64 uf, .slice adf af.length caf, .slice bdf bf.length cbf] 43) := ⟨_, rfl⟩
  have K00 := Lib.hid (show Kp w W0 by rw [hW]; exact Kp.alloc _ _)
  have HB := Lib.hid (fun w1 (k : Kp W0 w1) => show w1.cell? ⟨w.heap.size, 0, none⟩ = some (.bool spf) ∧ w1.cell? ⟨w.heap.size, 1, none⟩ = some (.int .i64 uf) ∧ w1.cell? ⟨w.heap.size, 2, none⟩ = some (.slice adf af.length caf) ∧ w1.cell? ⟨w.heap.size, 3, none⟩ = some (.slice bdf bf.length cbf) from ⟨cell_up k (show W0.cell? ⟨w.heap.size, 0, none⟩ = some (.bool spf) by rw [hW]; simp), cell_up k (show W0.cell? ⟨w.heap.size, 1, none⟩ = some (.int .i64 uf) by rw [hW]; simp), cell_up k (show W0.cell? ⟨w.heap.size, 2, none⟩ = some (.slice adf af.length caf) by rw [hW]; simp), cell_up k (show W0.cell? ⟨w.heap.size, 3, none⟩ = some (.slice bdf bf.length cbf) by rw [hW]; simp)⟩)
  obtain ⟨c0, c1, c2, c3⟩ := HB.out W0 (Kp.refl _)
  have K0 := Lib.hid (Kp.refl W0)
  have HW := Lib.hid hW
  clear hW
  have AW := Lib.hid (fun w1 (kk : Kp W0 w1) => awake14 w1 (T.kp (K00.out.trans kk)))
  have FW := Lib.hid (fun w1 (kk : Kp W0 w1) => RFW.out w1 (K00.out.trans kk))
  clear raf rbf T
  go_enter Tryd.func11, Tryd.ntmps11
  go_wp2_with fail
  rw [← HW.out]
  refine (AW.out _ (by first | with_reducible exact K0.out | with_reducible exact K0.out.trans (Kp.alloc _ _) | with_reducible exact (K0.out.trans (Kp.alloc _ _)).trans (Kp.alloc _ _) | with_reducible exact ((K0.out.trans (Kp.alloc _ _)).trans (Kp.alloc _ _)).trans (Kp.alloc _ _) | with_reducible exact K0.out.trans (Kp.drew _) | with_reducible exact K0.out.trans (Kp.drewN _ _))).mono ?_
  rintro e w1 ⟨rfl, kk⟩
  have K1 := Lib.hid ((show Kp W0 _ from (by first | with_reducible exact K0.out | with_reducible exact K0.out.trans (Kp.alloc _ _) | with_reducible exact (K0.out.trans (Kp.alloc _ _)).trans (Kp.alloc _ _) | with_reducible exact ((K0.out.trans (Kp.alloc _ _)).trans (Kp.alloc _ _)).trans (Kp.alloc _ _) | with_reducible exact K0.out.trans (Kp.drew _) | with_reducible exact K0.out.trans (Kp.drewN _ _))).trans kk)
  clear kk
  clear c0 c1 c2 c3
  obtain ⟨c0, c1, c2, c3⟩ := HB.out w1 K1.out
  go_wp2_with fail
  refine (FW.out _ (by first | with_reducible exact K1.out | with_reducible exact K1.out.trans (Kp.alloc _ _) | with_reducible exact (K1.out.trans (Kp.alloc _ _)).trans (Kp.alloc _ _) | with_reducible exact ((K1.out.trans (Kp.alloc _ _)).trans (Kp.alloc _ _)).trans (Kp.alloc _ _) | with_reducible exact K1.out.trans (Kp.drew _) | with_reducible exact K1.out.trans (Kp.drewN _ _))).mono ?_
  rintro e w2 ⟨rfl, kk⟩
  have K2 := Lib.hid ((show Kp W0 _ from (by first | with_reducible exact K1.out | with_reducible exact K1.out.trans (Kp.alloc _ _) | with_reducible exact (K1.out.trans (Kp.alloc _ _)).trans (Kp.alloc _ _) | with_reducible exact ((K1.out.trans (Kp.alloc _ _)).trans (Kp.alloc _ _)).trans (Kp.alloc _ _) | with_reducible exact K1.out.trans (Kp.drew _) | with_reducible exact K1.out.trans (Kp.drewN _ _))).trans kk)
  clear kk
  clear c0 c1 c2 c3
  obtain ⟨c0, c1, c2, c3⟩ := HB.out w2 K2.out
  go_wp2
  go_ret
  exact ⟨rfl, K00.out.trans K2.out⟩
set_option maxHeartbeats 16000000 in
set_option maxRecDepth 100000 in
theorem ends_main (f : LF) (vaf vbf : Value) (d : Int) (w : World) (raf : RunsAt w vaf f.a) (rbf : RunsAt w vbf f.b) (iaf : I64R f.a) (ibf : I64R f.b) (hd1 : -9223372036854775808 ≤ d) (hd2 : d ≤ 9223372036854775807) (T : Tabs w) (hf : fewB f = true) :
    Calls Tryd.prog 11 #[leafV f vaf vbf, .int .i64 d] w fun e w' => e = .returned (.bool true) ∧ Kp w w' := by
  have RFW := Lib.hid (fun w1 (kk : Kp w w1) => few_any f vaf vbf w1 (raf.kp kk) (rbf.kp kk))
  rw [hf] at RFW
  obtain ⟨n1, n2⟩ := fewB_yes hf
  have OK : LeafOk w f vaf vbf := ⟨raf, rbf, iaf, ibf, by omega, by omega⟩
  have FK := famR_ok f
  have RP := Lib.hid (fun w1 (kk : Kp w w1) => leafPairs_any f vaf vbf 1000 w1 (OK.kp kk) (T.kp kk))
  rw [show (min 1000 1000 : Int).toNat = 1000 by decide] at RP
  have RS := Lib.hid (fun w1 (kk : Kp w w1) => leafStarts_any f vaf vbf w1 (OK.kp kk) (T.kp kk))
  have RE := Lib.hid (fun w1 (kk : Kp w w1) => leafEnds_any f vaf vbf w1 (OK.kp kk) (T.kp kk))
  have ES := Lib.hid (start_end FK d)
  have EE := Lib.hid (end_end FK d)
  have NS := Lib.hid (starts_no (F := famR f))
  have NE := Lib.hid (ends_no (F := famR f))
  have sA := starts_sane FK
  have sB := ends_sane FK
  have lA := starts_len (famR f)
  have lB := ends_len (famR f)
  have LP : ((pairsF (famR f)).take 1000).length ≤ 1000 := by rw [List.length_take]; omega
  have HA := Lib.hid (fun w1 ad c (hv : RunsAt w1 (.slice ad (startsR (famR f)).length c) (startsR (famR f))) => has_any ad c (startsR (famR f)) d w1 hv (sane_i64 sA) (by omega) hd1 hd2)
  have HE := Lib.hid (fun w1 ad c (hv : RunsAt w1 (.slice ad (endsR (famR f)).length c) (endsR (famR f))) => has_any ad c (endsR (famR f)) d w1 hv (sane_i64 sB) (by omega) hd1 hd2)
  have SA := Lib.hid (fun w1 v (hv : RunsAt w1 v (startsR (famR f))) => sane_yes v _ w1 hv sA)
  have SB := Lib.hid (fun w1 v (hv : RunsAt w1 v (endsR (famR f))) => sane_yes v _ w1 hv sB)
  rw [nf_of_sane sA] at HA
  rw [nf_of_sane sB] at HE
  generalize (pairsF (famR f)).take 1000 = P at *
  generalize startsR (famR f) = A at *
  generalize endsR (famR f) = B at *
  generalize startsB (famR f) = sb at *
  generalize endsB (famR f) = eb at *
  clear OK FK sA sB
  obtain ⟨spf, uf, af, bf⟩ := f
  obtain ⟨adf, caf, rfl⟩ := raf.slice
  obtain ⟨bdf, cbf, rfl⟩ := rbf.slice
  unfold leafV at *
  simp only at *
  obtain ⟨W0, hW⟩ : ∃ W0, W0 = w.alloc (.cells #[.bool spf, .int .i64 uf, .slice adf af.length caf, .slice bdf bf.length cbf] 43) := ⟨_, rfl⟩
  have K00 := Lib.hid (show Kp w W0 by rw [hW]; exact Kp.alloc _ _)
  have HB := Lib.hid (fun w1 (k : Kp W0 w1) => show w1.cell? ⟨w.heap.size, 0, none⟩ = some (.bool spf) ∧ w1.cell? ⟨w.heap.size, 1, none⟩ = some (.int .i64 uf) ∧ w1.cell? ⟨w.heap.size, 2, none⟩ = some (.slice adf af.length caf) ∧ w1.cell? ⟨w.heap.size, 3, none⟩ = some (.slice bdf bf.length cbf) from ⟨cell_up k (show W0.cell? ⟨w.heap.size, 0, none⟩ = some (.bool spf) by rw [hW]; simp), cell_up k (show W0.cell? ⟨w.heap.size, 1, none⟩ = some (.int .i64 uf) by rw [hW]; simp), cell_up k (show W0.cell? ⟨w.heap.size, 2, none⟩ = some (.slice adf af.length caf) by rw [hW]; simp), cell_up k (show W0.cell? ⟨w.heap.size, 3, none⟩ = some (.slice bdf bf.length cbf) by rw [hW]; simp)⟩)
  obtain ⟨c0, c1, c2, c3⟩ := HB.out W0 (Kp.refl _)
  have K0 := Lib.hid (Kp.refl W0)
  have HW := Lib.hid hW
  clear hW
  have AW := Lib.hid (fun w1 (kk : Kp W0 w1) => awake14 w1 (T.kp (K00.out.trans kk)))
  have FW := Lib.hid (fun w1 (kk : Kp W0 w1) => RFW.out w1 (K00.out.trans kk))
  have PP := Lib.hid (fun w1 (kk : Kp W0 w1) => RP.out w1 (K00.out.trans kk))
  have PS := Lib.hid (fun w1 (kk : Kp W0 w1) => RS.out w1 (K00.out.trans kk))
  have PE := Lib.hid (fun w1 (kk : Kp W0 w1) => RE.out w1 (K00.out.trans kk))
  clear raf rbf T RP RS RE RFW
  have q1 : ((P.length : Int) == 1000) = decide (P.length = 1000) := by
    by_cases h : P.length = 1000
    · rw [decide_eq_true h, h]; rfl
    · rw [decide_eq_false h]; exact beq_eq_false_iff_ne.2 (by omega)
  have MM : decide (P.length = 1000) = false → P.length ≠ 1000 := fun h => of_decide_eq_false h
  have M := Lib.hid MM
  clear MM
  generalize decide (P.length = 1000) = m at *
  go_enter Tryd.func11, Tryd.ntmps11
  go_wp2_with fail
  rw [← HW.out]
  refine (AW.out _ (by first | with_reducible exact K0.out | with_reducible exact K0.out.trans (Kp.alloc _ _) | with_reducible exact (K0.out.trans (Kp.alloc _ _)).trans (Kp.alloc _ _) | with_reducible exact ((K0.out.trans (Kp.alloc _ _)).trans (Kp.alloc _ _)).trans (Kp.alloc _ _) | with_reducible exact K0.out.trans (Kp.drew _) | with_reducible exact K0.out.trans (Kp.drewN _ _))).mono ?_
  rintro e w1 ⟨rfl, kk⟩
  have K1 := Lib.hid ((show Kp W0 _ from (by first | with_reducible exact K0.out | with_reducible exact K0.out.trans (Kp.alloc _ _) | with_reducible exact (K0.out.trans (Kp.alloc _ _)).trans (Kp.alloc _ _) | with_reducible exact ((K0.out.trans (Kp.alloc _ _)).trans (Kp.alloc _ _)).trans (Kp.alloc _ _) | with_reducible exact K0.out.trans (Kp.drew _) | with_reducible exact K0.out.trans (Kp.drewN _ _))).trans kk)
  clear kk
  clear c0 c1 c2 c3
  obtain ⟨c0, c1, c2, c3⟩ := HB.out w1 K1.out
  go_wp2_with fail
  refine (FW.out _ (by first | with_reducible exact K1.out | with_reducible exact K1.out.trans (Kp.alloc _ _) | with_reducible exact (K1.out.trans (Kp.alloc _ _)).trans (Kp.alloc _ _) | with_reducible exact ((K1.out.trans (Kp.alloc _ _)).trans (Kp.alloc _ _)).trans (Kp.alloc _ _) | with_reducible exact K1.out.trans (Kp.drew _) | with_reducible exact K1.out.trans (Kp.drewN _ _))).mono ?_
  rintro e w2 ⟨rfl, kk⟩
  have K2 := Lib.hid ((show Kp W0 _ from (by first | with_reducible exact K1.out | with_reducible exact K1.out.trans (Kp.alloc _ _) | with_reducible exact (K1.out.trans (Kp.alloc _ _)).trans (Kp.alloc _ _) | with_reducible exact ((K1.out.trans (Kp.alloc _ _)).trans (Kp.alloc _ _)).trans (Kp.alloc _ _) | with_reducible exact K1.out.trans (Kp.drew _) | with_reducible exact K1.out.trans (Kp.drewN _ _))).trans kk)
  clear kk
  clear c0 c1 c2 c3
  obtain ⟨c0, c1, c2, c3⟩ := HB.out w2 K2.out
  go_wp2_with fail
  refine (PP.out _ (by first | with_reducible exact K2.out | with_reducible exact K2.out.trans (Kp.alloc _ _) | with_reducible exact (K2.out.trans (Kp.alloc _ _)).trans (Kp.alloc _ _) | with_reducible exact ((K2.out.trans (Kp.alloc _ _)).trans (Kp.alloc _ _)).trans (Kp.alloc _ _) | with_reducible exact K2.out.trans (Kp.drew _) | with_reducible exact K2.out.trans (Kp.drewN _ _))).mono ?_
  rintro e w3 ⟨v, rfl, own, kk⟩
  have K3 := Lib.hid ((show Kp W0 _ from (by first | with_reducible exact K2.out | with_reducible exact K2.out.trans (Kp.alloc _ _) | with_reducible exact (K2.out.trans (Kp.alloc _ _)).trans (Kp.alloc _ _) | with_reducible exact ((K2.out.trans (Kp.alloc _ _)).trans (Kp.alloc _ _)).trans (Kp.alloc _ _) | with_reducible exact K2.out.trans (Kp.drew _) | with_reducible exact K2.out.trans (Kp.drewN _ _))).trans kk)
  obtain ⟨ad, cp, rfl⟩ := own_slice own
  have RR := Lib.hid (runsAt_own own)
  clear own
  clear kk
  clear c0 c1 c2 c3
  obtain ⟨c0, c1, c2, c3⟩ := HB.out w3 K3.out
  go_wp2_with fail
  refine (PS.out _ (by first | with_reducible exact K3.out | with_reducible exact K3.out.trans (Kp.alloc _ _) | with_reducible exact (K3.out.trans (Kp.alloc _ _)).trans (Kp.alloc _ _) | with_reducible exact ((K3.out.trans (Kp.alloc _ _)).trans (Kp.alloc _ _)).trans (Kp.alloc _ _) | with_reducible exact K3.out.trans (Kp.drew _) | with_reducible exact K3.out.trans (Kp.drewN _ _))).mono ?_
  rintro e w4 ⟨v, rfl, RA, kk⟩
  have K4 := Lib.hid ((show Kp W0 _ from (by first | with_reducible exact K3.out | with_reducible exact K3.out.trans (Kp.alloc _ _) | with_reducible exact (K3.out.trans (Kp.alloc _ _)).trans (Kp.alloc _ _) | with_reducible exact ((K3.out.trans (Kp.alloc _ _)).trans (Kp.alloc _ _)).trans (Kp.alloc _ _) | with_reducible exact K3.out.trans (Kp.drew _) | with_reducible exact K3.out.trans (Kp.drewN _ _))).trans kk)
  obtain ⟨aA, cA, rfl⟩ := RA.slice
  have R4 := Lib.hid (RR.out.kp kk)
  have A4 := Lib.hid RA
  clear RA RR
  clear kk
  clear c0 c1 c2 c3
  obtain ⟨c0, c1, c2, c3⟩ := HB.out w4 K4.out
  go_wp2_with fail
  refine (PE.out _ (by first | with_reducible exact K4.out | with_reducible exact K4.out.trans (Kp.alloc _ _) | with_reducible exact (K4.out.trans (Kp.alloc _ _)).trans (Kp.alloc _ _) | with_reducible exact ((K4.out.trans (Kp.alloc _ _)).trans (Kp.alloc _ _)).trans (Kp.alloc _ _) | with_reducible exact K4.out.trans (Kp.drew _) | with_reducible exact K4.out.trans (Kp.drewN _ _))).mono ?_
  rintro e w5 ⟨v, rfl, RB, kk⟩
  have K5 := Lib.hid ((show Kp W0 _ from (by first | with_reducible exact K4.out | with_reducible exact K4.out.trans (Kp.alloc _ _) | with_reducible exact (K4.out.trans (Kp.alloc _ _)).trans (Kp.alloc _ _) | with_reducible exact ((K4.out.trans (Kp.alloc _ _)).trans (Kp.alloc _ _)).trans (Kp.alloc _ _) | with_reducible exact K4.out.trans (Kp.drew _) | with_reducible exact K4.out.trans (Kp.drewN _ _))).trans kk)
  obtain ⟨aB, cB, rfl⟩ := RB.slice
  have R5 := Lib.hid (R4.out.kp kk)
  have A5 := Lib.hid (A4.out.kp kk)
  have B5 := Lib.hid RB
  clear RB R4 A4
  clear kk
  clear c0 c1 c2 c3
  obtain ⟨c0, c1, c2, c3⟩ := HB.out w5 K5.out
  cases m with
  | false =>
    cases sb with
    | false =>
      cases eb with
      | false =>
        have qa : ((A.length : Int) == 0) = true := by rw [NS.out rfl]; rfl
        have qb : ((B.length : Int) == 0) = true := by rw [NE.out rfl]; rfl
        go_wp2
        go_ret
        exact ⟨rfl, K00.out.trans K5.out⟩
      | true =>
        have qa : ((A.length : Int) == 0) = true := by rw [NS.out rfl]; rfl
        go_wp2
        go_ret
        exact ⟨rfl, K00.out.trans K5.out⟩
    | true =>
      cases eb with
      | false =>
        have qb : ((B.length : Int) == 0) = true := by rw [NE.out rfl]; rfl
        go_wp2
        go_ret
        exact ⟨rfl, K00.out.trans K5.out⟩
      | true =>
        have es := ES.out rfl (M.out rfl)
        have ee := EE.out rfl (M.out rfl)
        have ESS := Lib.hid es
        have EEE := Lib.hid ee
        have Z5 := Lib.hid (Kp.refl w5)
        clear es ee c0 c1 c2 c3 ES EE M NS NE
        go_wp2
        go_loopw [11, 12, 13] (fun s t i wr => ∃ k : Nat, k ≤ P.length ∧ i = .int .i64 k ∧ s = .bool (inE P Prod.fst d k) ∧ t = .bool (inE P Prod.snd d k) ∧ Hid (Kp w5 wr)) (fun _ _ i _ => P.length - (intOf i).toNat)
        case atStart => exact ⟨0, Nat.zero_le _, rfl, rfl, rfl, Z5⟩
        case round =>
          obtain ⟨k, hk, rfl, rfl, rfl, J⟩ := hrel
          by_cases hlt : k < P.length
          · rcases R5.out.kp J.out with ⟨_, _, _, e⟩ | ⟨b0, off, cap, ev, hc, hm, hx⟩
            · rw [e] at hlt; simp at hlt
            cases ev
            obtain ⟨d1, d2⟩ := hx k hlt
            have NS := Lib.hid (show inE P Prod.fst d (k + 1) = (inE P Prod.fst d k || ((at_ P k).1 == d)) from rfl)
            have NT := Lib.hid (show inE P Prod.snd d (k + 1) = (inE P Prod.snd d k || ((at_ P k).2 == d)) from rfl)
            obtain ⟨x, y, ee⟩ : ∃ x y, at_ P k = (x, y) := ⟨_, _, rfl⟩
            rw [ee] at d1 d2 NS NT
            simp only at d1 d2 NS NT
            clear hx hc hm ee
            have z1 : (k : Int) < (P.length : Int) := by omega
            have z2 : (0 : Int) ≤ (k : Int) := by omega
            generalize inE P Prod.fst d k = b at *
            generalize inE P Prod.snd d k = c at *
            cases b <;> cases c
            all_goals
              go_wp2
              go_roundw
              case rel => exact ⟨k + 1, by omega, by go_num, by rw [NS.out]; rfl, by rw [NT.out]; rfl, J⟩
              case measure => simp [intOf]; omega
          · obtain rfl : k = P.length := by omega
            have HA2 := HA
            rw [ESS.out] at HA2
            have HE2 := HE
            rw [EEE.out] at HE2
            generalize inE P Prod.fst d P.length = b at *
            generalize inE P Prod.snd d P.length = c at *
            clear HA HE ESS EEE
            have Z0 : (P.length : Int) ≤ 1000 := by omega
            go_wp2_with fail
            refine (SA.out _ _ (A5.out.kp (J.out.trans (by first | with_reducible exact Kp.refl _ | with_reducible exact Kp.alloc _ _ | with_reducible exact (Kp.alloc _ _).trans (Kp.alloc _ _) | with_reducible exact ((Kp.alloc _ _).trans (Kp.alloc _ _)).trans (Kp.alloc _ _) | with_reducible exact Kp.drew _ | with_reducible exact Kp.drewN _ _)))).mono ?_
            rintro e w6 ⟨rfl, kk⟩
            have J6 := Lib.hid (J.out.trans ((show Kp wr _ from (by first | with_reducible exact Kp.refl _ | with_reducible exact Kp.alloc _ _ | with_reducible exact (Kp.alloc _ _).trans (Kp.alloc _ _) | with_reducible exact ((Kp.alloc _ _).trans (Kp.alloc _ _)).trans (Kp.alloc _ _) | with_reducible exact Kp.drew _ | with_reducible exact Kp.drewN _ _)).trans kk))
            clear kk
            go_wp2_with fail
            refine (SB.out _ _ (B5.out.kp (J6.out.trans (by first | with_reducible exact Kp.refl _ | with_reducible exact Kp.alloc _ _ | with_reducible exact (Kp.alloc _ _).trans (Kp.alloc _ _) | with_reducible exact ((Kp.alloc _ _).trans (Kp.alloc _ _)).trans (Kp.alloc _ _) | with_reducible exact Kp.drew _ | with_reducible exact Kp.drewN _ _)))).mono ?_
            rintro e w7 ⟨rfl, kk⟩
            have J7 := Lib.hid (J6.out.trans ((show Kp w6 _ from (by first | with_reducible exact Kp.refl _ | with_reducible exact Kp.alloc _ _ | with_reducible exact (Kp.alloc _ _).trans (Kp.alloc _ _) | with_reducible exact ((Kp.alloc _ _).trans (Kp.alloc _ _)).trans (Kp.alloc _ _) | with_reducible exact Kp.drew _ | with_reducible exact Kp.drewN _ _)).trans kk))
            clear kk
            go_wp2_with fail
            refine (HA2.out _ _ _ (A5.out.kp (J7.out.trans (by first | with_reducible exact Kp.refl _ | with_reducible exact Kp.alloc _ _ | with_reducible exact (Kp.alloc _ _).trans (Kp.alloc _ _) | with_reducible exact ((Kp.alloc _ _).trans (Kp.alloc _ _)).trans (Kp.alloc _ _) | with_reducible exact Kp.drew _ | with_reducible exact Kp.drewN _ _)))).mono ?_
            rintro e w8 ⟨rfl, kk⟩
            have J8 := Lib.hid (J7.out.trans ((show Kp w7 _ from (by first | with_reducible exact Kp.refl _ | with_reducible exact Kp.alloc _ _ | with_reducible exact (Kp.alloc _ _).trans (Kp.alloc _ _) | with_reducible exact ((Kp.alloc _ _).trans (Kp.alloc _ _)).trans (Kp.alloc _ _) | with_reducible exact Kp.drew _ | with_reducible exact Kp.drewN _ _)).trans kk))
            clear kk
            have bb : (b == b) = true := by simp
            go_wp2_with fail
            refine (HE2.out _ _ _ (B5.out.kp (J8.out.trans (by first | with_reducible exact Kp.refl _ | with_reducible exact Kp.alloc _ _ | with_reducible exact (Kp.alloc _ _).trans (Kp.alloc _ _) | with_reducible exact ((Kp.alloc _ _).trans (Kp.alloc _ _)).trans (Kp.alloc _ _) | with_reducible exact Kp.drew _ | with_reducible exact Kp.drewN _ _)))).mono ?_
            rintro e w9 ⟨rfl, kk⟩
            have J9 := Lib.hid (J8.out.trans ((show Kp w8 _ from (by first | with_reducible exact Kp.refl _ | with_reducible exact Kp.alloc _ _ | with_reducible exact (Kp.alloc _ _).trans (Kp.alloc _ _) | with_reducible exact ((Kp.alloc _ _).trans (Kp.alloc _ _)).trans (Kp.alloc _ _) | with_reducible exact Kp.drew _ | with_reducible exact Kp.drewN _ _)).trans kk))
            clear kk
            go_wp2
            go_ret
            exact ⟨by simp, K00.out.trans (K5.out.trans J9.out)⟩
  | true =>
    cases sb with
    | false =>
      cases eb with
      | false =>
        have qa : ((A.length : Int) == 0) = true := by rw [NS.out rfl]; rfl
        have qb : ((B.length : Int) == 0) = true := by rw [NE.out rfl]; rfl
        go_wp2
        go_ret
        exact ⟨rfl, K00.out.trans K5.out⟩
      | true =>
        have qa : ((A.length : Int) == 0) = true := by rw [NS.out rfl]; rfl
        go_wp2
        go_ret
        exact ⟨rfl, K00.out.trans K5.out⟩
    | true =>
      cases eb with
      | false =>
        have qb : ((B.length : Int) == 0) = true := by rw [NE.out rfl]; rfl
        go_wp2
        go_ret
        exact ⟨rfl, K00.out.trans K5.out⟩
      | true =>
        go_wp2
        go_ret
        exact ⟨rfl, K00.out.trans K5.out⟩
theorem leafEnds_walk (f : LF) (vaf vbf : Value) (d : Int) (w : World) (raf : RunsAt w vaf f.a) (rbf : RunsAt w vbf f.b) (iaf : I64R f.a) (ibf : I64R f.b) (hd1 : -9223372036854775808 ≤ d) (hd2 : d ≤ 9223372036854775807) (T : Tabs w) :
    Calls Tryd.prog 11 #[leafV f vaf vbf, .int .i64 d] w fun e w' => e = .returned (.bool true) ∧ Kp w w' := by
  rcases Bool.eq_false_or_eq_true (fewB f) with hf | hf
  · exact ends_main f vaf vbf d w raf rbf iaf ibf hd1 hd2 T hf
  · exact ends_few f vaf vbf d w raf rbf iaf ibf hd1 hd2 T hf
end Go.Proofs.YtehpngppdcnohaaDoor
