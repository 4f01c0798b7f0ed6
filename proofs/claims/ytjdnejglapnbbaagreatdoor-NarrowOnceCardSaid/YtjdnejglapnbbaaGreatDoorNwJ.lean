/-
  Contract of narrow.Narrow.
-/
import Derived.Test.YtjdnejglapnbbaaGreatDoorNwI
namespace Go.Proofs.YtjdnejglapnbbaaGreatDoor
open Go.RowKit
set_option linter.unusedVariables false
set_option linter.unusedSimpArgs false
theorem glf_i64 {f : LF} (h : GLf f) : I64R f.a ∧ I64R f.b := by
  rcases Bool.eq_false_or_eq_true f.sp with hs | hs
  · obtain ⟨_, a, b⟩ := leafB_span h.ok hs
    exact ⟨sane_i64 (setB_sane a), sane_i64 (setB_sane b)⟩
  · obtain ⟨_, a, b⟩ := leafB_units h.ok hs
    refine ⟨sane_i64 (setB_sane a), ?_⟩
    rw [b]
    intro r hr
    cases hr
theorem good_ok {L : List LF} (h : ∀ g ∈ L, GLf g) : LsOk L := fun f hf => ⟨(glf_i64 (h f hf)).1, (glf_i64 (h f hf)).2, (h f hf).na, (h f hf).nb⟩
theorem diffR_len {a b : List R} : (diffR a b).length ≤ a.length + b.length + 1 := by
  unfold diffR
  have e : interR a (restR b) = interR (nf a) (restR b) := sane_ext (interR_sane _ _) (interR_sane _ _) fun n => by rw [interR_mem, interR_mem, nf_mem]
  rw [e]
  have h1 := interR_len (nf_sane a) (restR_ok b).1
  have h2 := nf_len a
  have h3 := gaps_len (nf b) (-1099511627776)
  have h4 := nf_len b
  unfold restR at h1 ⊢
  omega
/-- what a call answers -/
def NaPost (l m : List LF) (e : Ending) (w' : World) : Prop := ∃ v L n, e = .returned (.tuple #[v, .int .i64 n]) ∧ LeavesAt w' v L ∧ NarP l m n L
theorem nar_no {l m : List LF} (h : (okEs l && okEs m) = false) : NarP l m 8 [] := .inl ⟨rfl, rfl, .inl h⟩
set_option maxHeartbeats 16000000 in
set_option maxRecDepth 100000 in
theorem nwNarrow_any (vl vm : Value) (l m : List LF) (w : World) (hv : LeavesAt w vl l) (hu : LeavesAt w vm m) (hl : LsOk l) (hm : LsOk m) (T : Tabs w) (nI : (rawI m).length ≤ 9000) (nD : (rawD m).length ≤ 90000)
    (nW : ∀ K, KeptOk (rawI m) K → (stsL (leftL K (diffR (rawD m) (nf K)) l)).length ≤ 1000000 ∧ (ensL (leftL K (diffR (rawD m) (nf K)) l)).length ≤ 1000000 ∧ (leftL K (diffR (rawD m) (nf K)) l).length ≤ 1000000) :
    Calls Tryz.prog 27 #[vl, vm] w fun e w' => NaPost l m e w' ∧ Kp w w' := by
  have hml := hv.len
  unfold maxLen at hml
  obtain ⟨ad, cp, rfl⟩ := hv.slice
  obtain ⟨ae, cq, rfl⟩ := hu.slice
  have HV := Lib.hid hv
  have HL := Lib.hid hl
  have TT := Lib.hid T
  have BD := Lib.hid (fun w1 (kk : Kp w w1) => nwBounds_any _ m w1 (hu.kp kk) hm (T.kp kk) (by omega) (by omega))
  have NWH := Lib.hid nW
  have NO := Lib.hid (fun h => nar_no (l := l) (m := m) h)
  clear hv hu hl hm T
  go_enter Tryz.func27, Tryz.ntmps27
  go_wp2_with fail
  go_loopw [16] (fun i wr => ∃ k : Nat, k ≤ l.length ∧ i = .int .i64 k ∧ Hid (okEs (l.take k) = true) ∧ Hid (Kp w wr)) (fun i _ => l.length - (intOf i).toNat)
  case atStart => exact ⟨0, Nat.zero_le _, rfl, Lib.hid rfl, Lib.hid (Kp.refl _)⟩
  case round =>
    obtain ⟨k, hk, rfl, OKP, J⟩ := hrel
    by_cases hlt : k < l.length
    · have q2 : decide ((k : Int) < (l.length : Int)) = true := decide_eq_true (by omega)
      have q3 : decide (k < l.length) = true := decide_eq_true hlt
      rcases HV.out.kp J.out with ⟨_, _, _, e⟩ | ⟨b0, off, cap, ev, hc, hmx, hx⟩
      · rw [e] at hlt; simp at hlt
      cases ev
      obtain ⟨va, vb, d0, d1, d2, d3, ra, rb⟩ := hx k hlt
      have LOK := HL.out _ (lat_mem hlt)
      obtain ⟨f, hf⟩ : ∃ f, lat l k = f := ⟨_, rfl⟩
      rw [hf] at d0 d1 ra rb
      (try rw [hf] at LOK)
      obtain ⟨sp, u, a, b⟩ := f
      simp only at d0 d1 ra rb
      (try simp only at LOK)
      obtain ⟨aa, ca, rfl⟩ := ra.slice
      obtain ⟨ab, cb, rfl⟩ := rb.slice
      have HF := Lib.hid hf
      have z1 : (k : Int) < (l.length : Int) := by omega
      have z2 : (0 : Int) ≤ (k : Int) := by omega
      clear hx hc hmx hf
      have FO : LeafOk wr ⟨sp, u, a, b⟩ _ _ := ⟨ra, rb, LOK.1, LOK.2.1, LOK.2.2.1, LOK.2.2.2⟩
      have EG := Lib.hid (fun w1 (kk : Kp wr w1) => nwEdges_any ⟨sp, u, a, b⟩ _ _ w1 (FO.kp kk) (TT.out.kp (J.out.trans kk)))
      rw [show leafV ⟨sp, u, a, b⟩ (.slice aa a.length ca) (.slice ab b.length cb) = .agg #[.bool sp, .int .i64 u, .slice aa a.length ca, .slice ab b.length cb] from rfl] at EG
      have OKN := okEs_next hlt
      have NOK := fun g => okEs_no hlt g
      rw [HF.out, OKP.out, Bool.true_and] at OKN
      rw [HF.out] at NOK
      have OKH := Lib.hid OKN
      have NOH := Lib.hid NOK
      generalize startsR (famR ⟨sp, u, a, b⟩) = sF at *
      generalize endsR (famR ⟨sp, u, a, b⟩) = eF at *
      generalize okE ⟨sp, u, a, b⟩ = okf at *
      clear ra rb FO LOK HF HV HL TT OKN NOK
      have kkVV : Kp wr (wr.alloc (.cells #[.bool sp, .int .i64 u, .slice aa a.length ca, .slice ab b.length cb] 47)) := Kp.alloc _ _
      obtain ⟨V, hVv⟩ : ∃ x, x = wr.alloc (.cells #[.bool sp, .int .i64 u, .slice aa a.length ca, .slice ab b.length cb] 47) := ⟨_, rfl⟩
      have kav : Kp wr V := by rw [hVv]; exact Kp.alloc _ _
      have gqv0 : V.heap[wr.heap.size]? = some (.cells #[.bool sp, .int .i64 u, .slice aa a.length ca, .slice ab b.length cb] 47 (0, 0)) := by rw [hVv]; exact heap_at _ _ _ (by first | rfl | simp)
      rw [← hVv] at kkVV
      have KSv := Lib.hid (fun w' (kq : Kp V w') => show w'.cell? ⟨wr.heap.size, 0, none⟩ = some (.bool sp) ∧ w'.cell? ⟨wr.heap.size, 1, none⟩ = some (.int .i64 u) ∧ w'.cell? ⟨wr.heap.size, 2, none⟩ = some (.slice aa a.length ca) ∧ w'.cell? ⟨wr.heap.size, 3, none⟩ = some (.slice ab b.length cb) ∧ Kp V w' from ⟨(row4 (heap_block kq gqv0)).1, (row4 (heap_block kq gqv0)).2.1, (row4 (heap_block kq gqv0)).2.2.1, (row4 (heap_block kq gqv0)).2.2.2, kq⟩)
      have GQv0 := Lib.hid gqv0
      have HVv := Lib.hid hVv
      have KV := Lib.hid kav
      clear hVv kav gqv0
      have kkV : Kp V V := Kp.refl _
      obtain ⟨xv0, xv1, xv2, xv3, _⟩ := KSv.out _ kkV
      go_upto_region 4 with fail
      rw [← HVv.out]
      clear HVv d0 d1 d2 d3
      go_wp2_with fail
      refine (EG.out _ (KV.out.trans (by first | with_reducible exact kkV | ((repeat (first | with_reducible refine Kp.trans ?_ (Kp.drew _) | with_reducible refine Kp.trans ?_ (Kp.alloc _ _))); with_reducible exact kkV)))).mono ?_
      rintro e we ⟨v8, v9, rfl, o8, o9, kq1⟩
      have kkwe : Kp V we := Kp.trans (show Kp V _ from (by first | with_reducible exact kkV | ((repeat (first | with_reducible refine Kp.trans ?_ (Kp.drew _) | with_reducible refine Kp.trans ?_ (Kp.alloc _ _))); with_reducible exact kkV))) kq1
      obtain ⟨a8, l8, rfl⟩ := own_slice o8
      obtain ⟨a9, l9, rfl⟩ := own_slice o9
      clear o8 o9
      clear kq1
      clear xv0 xv1 xv2 xv3
      obtain ⟨xv0, xv1, xv2, xv3, _⟩ := KSv.out _ kkwe
      cases okf with
      | true =>
        go_wp2
        go_roundw
        case rel => exact ⟨k + 1, by omega, by go_num, OKH, Lib.hid (J.out.trans (KV.out.trans (by first | with_reducible exact kkwe | ((repeat (first | with_reducible refine Kp.trans ?_ (Kp.drew _) | with_reducible refine Kp.trans ?_ (Kp.alloc _ _))); with_reducible exact kkwe))))⟩
        case measure => simp [intOf]; omega
      | false =>
        have e8 := Lib.hid (NO.out (by rw [NOH.out rfl]; rfl))
        go_wp2
        exact bodyPost_ret (results_tmp2 rfl _ _ _) rfl ⟨⟨_, [], 8, rfl, .inl ⟨_, _, rfl, rfl⟩, e8.out⟩, J.out.trans (KV.out.trans (by first | with_reducible exact kkwe | ((repeat (first | with_reducible refine Kp.trans ?_ (Kp.drew _) | with_reducible refine Kp.trans ?_ (Kp.alloc _ _))); with_reducible exact kkwe)))⟩
    · have q2 : decide ((k : Int) < (l.length : Int)) = false := decide_eq_false (by omega)
      have q3 : decide (k < l.length) = false := decide_eq_false (by omega)
      obtain rfl : k = l.length := by omega
      rw [List.take_length] at OKP
      go_wp2_with fail
      refine (BD.out _ J.out).mono ?_
      rintro e w1 ⟨⟨B0, B1⟩, k1⟩
      have K1 := Lib.hid (J.out.trans k1)
      rcases Bool.eq_false_or_eq_true (okEs m) with om | om
      rotate_left
      · obtain rfl := B0 om
        have e8 := Lib.hid (NO.out (by rw [om, Bool.and_false]))
        clear B0 B1 k1
        go_wp2
        exact bodyPost_ret (results_tmp2 rfl _ _ _) rfl ⟨⟨_, [], 8, rfl, .inl ⟨_, _, rfl, rfl⟩, e8.out⟩, K1.out.trans (Kp.alloc _ _)⟩
      obtain ⟨vi, vd, K, rfl, rk, kK, rd⟩ := B1 om
      obtain ⟨ai, ci, rfl⟩ := rk.slice
      obtain ⟨aj, cj, rfl⟩ := rd.slice
      have RK := Lib.hid rk
      have RD := Lib.hid rd
      have dl := diffR_len (a := rawD m) (b := nf K)
      have kl := kK.len
      have nl := nf_len K
      obtain ⟨n1, n2, n3⟩ := NWH.out K kK
      have NT := nar_told (l := l) kK
      have GD := fun g hg => left_good K (diffR (rawD m) (nf K)) OKP.out (g := g) hg
      have NR := Lib.hid (fun w2 (kk : Kp w1 w2) => nwNarrowed_any K (diffR (rawD m) (nf K)) _ _ (.slice ad l.length cp) l w2 (RK.out.kp kk) (RD.out.kp kk) (HV.out.kp (K1.out.trans kk)) HL.out (TT.out.kp (K1.out.trans kk)) (fun r hr => rawI_in (kK.sub r hr)) kK.up (diffR_sane _ _) (by omega) (by omega) n3)
      generalize diffR (rawD m) (nf K) = D at *
      have IW := Lib.hid (fun v w2 (kk : Kp w w2) (h : LeavesAt w2 v (leftL K D l)) => nwIsWide_any v (leftL K D l) w2 h (good_ok GD) (TT.out.kp kk) n1 n2)
      have EN : narE l m (leftL K D l) = if (leftL K D l).length = 0 then 9 else if wideB (leftL K D l) = true then 8 else 0 := by
        unfold narE
        rw [OKP.out, om, Bool.true_and, if_neg (by decide)]
      unfold narL at NT
      generalize leftL K D l = L at *
      generalize wideB L = wb at *
      rw [EN] at NT
      have HNT := Lib.hid NT
      clear rk rd kK kl dl nl n1 n2 n3 NT GD NWH B0 B1 EN om BD HV HL TT NO k1
      go_wp2_with fail
      refine (NR.out _ (Kp.alloc _ _)).mono ?_
      rintro e w2 ⟨v2, mm, rfl, hmm, ov, ow, k2⟩
      obtain ⟨a2, l2, rfl⟩ := own_slice4 ow
      have lL : mm.length = L.length := by rw [← hmm, List.length_map]
      have LV := Lib.hid (show LeavesAt w2 (.slice a2 mm.length l2) L from by have h := leavesAt_own ow ov.reads; rwa [hmm] at h)
      rw [lL] at LV ⊢
      have K2 := Lib.hid (K1.out.trans ((Kp.alloc _ _).trans k2))
      clear hmm ov ow k2 lL RK RD NR
      by_cases h0 : L.length = 0
      · have g1 : ((L.length : Int) == 0) = true := by rw [h0]; rfl
        have e9 := HNT.out
        rw [if_pos h0, if_neg (by decide)] at e9
        have E9 := Lib.hid e9
        clear e9 h0
        go_wp2
        exact bodyPost_ret (results_tmp2 rfl _ _ _) rfl ⟨⟨_, [], 9, rfl, .inl ⟨_, _, rfl, rfl⟩, E9.out⟩, K2.out⟩
      have g1 : ((L.length : Int) == 0) = false := by rw [beq_eq_false_iff_ne]; omega
      have e9 := HNT.out
      rw [if_neg h0] at e9
      clear h0 HNT
      go_wp2_with fail
      refine (IW.out _ _ K2.out LV.out).mono ?_
      rintro e w3 ⟨rfl, k3⟩
      have K3 := Lib.hid (K2.out.trans k3)
      have LV3 := Lib.hid (LV.out.kp k3)
      clear k3 IW
      cases wb with
      | true =>
        rw [if_pos rfl, if_neg (by decide)] at e9
        have E9 := Lib.hid e9
        clear e9
        go_wp2
        exact bodyPost_ret (results_tmp2 rfl _ _ _) rfl ⟨⟨_, [], 8, rfl, .inl ⟨_, _, rfl, rfl⟩, E9.out⟩, K3.out⟩
      | false =>
        rw [if_neg (by decide), if_pos rfl] at e9
        have E9 := Lib.hid e9
        clear e9
        go_wp2
        exact bodyPost_ret (results_tmp2 rfl _ _ _) rfl ⟨⟨_, L, 0, rfl, LV3.out, E9.out⟩, K3.out⟩
end Go.Proofs.YtjdnejglapnbbaaGreatDoor
