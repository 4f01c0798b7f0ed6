import Derived.Test.YtcooaoponkkpeaaGreatDoorNwI
import Derived.Test.YtcooaoponkkpeaaGreatDoorJO
set_option maxHeartbeats 16000000
set_option maxRecDepth 100000
namespace Go.Proofs.YtcooaoponkkpeaaGreatDoor
open Go.RowKit
set_option linter.unusedVariables false
set_option linter.unusedSimpArgs false
theorem glf_i64 {f : LF} (h : GLf f) : I64R f.a ∧ I64R f.b := by
 rcases Bool.eq_false_or_eq_true f.sp with hs | hs
 ·obtain ⟨_, a, b⟩ := leafB_span h.ok hs
  exact ⟨sane_i64 (setB_sane a), sane_i64 (setB_sane b)⟩
 ·obtain ⟨_, a, b⟩ := leafB_units h.ok hs
  refine ⟨sane_i64 (setB_sane a), ?_⟩
  rw [b]
  intro r hr
  cases hr
theorem good_ok {L : List LF} (h : ∀ g ∈ L, GLf g) : LsOk L := fun f hf => ⟨(glf_i64 (h f hf)).1, (glf_i64 (h f hf)).2, (h f hf).na, (h f hf).nb⟩
theorem diffR_len {a b : List R} : (diffR a b).length ≤ a.length + b.length + 1 := by
 unfold diffR
 have e : interR a (restR b) = interR (nf a) (restR b) := sane_ext (interR_sane _ _) (interR_sane _ _) fun n => by rw [interR_mem, interR_mem, nf_mem]
 rw [e]
 have h1 := interR_len (nf_sane a) (restR_ok b).1
 have h2 := nf_len a
 have h3 := gaps_len (nf b) (-1099511627776)
 have h4 := nf_len b
 unfold restR at h1 ⊢
 omega
def NaPost (l m : List LF) (e : Ending) (w' : World) : Prop := ∃ v L n, e = .returned (.tuple #[v, .int .i64 n]) ∧ LeavesAt w' v L ∧ NarP l m n L
theorem nar_no {l m : List LF} (h : (okEs l && okEs m) = false) : NarP l m 8 [] := .inl ⟨rfl, rfl, .inl h⟩
theorem nwNarrow_any (vl vm : Value) (l m : List LF) (w : World) (hv : LeavesAt w vl l) (hu : LeavesAt w vm m) (hl : LsOk l) (hm : LsOk m) (T : Tabs w) (nI : (rawI m).length ≤ 9000) (nD : (rawD m).length ≤ 90000)
  (nW : ∀ K, KeptOk (rawI m) K → (stsL (leftL K (diffR (rawD m) (nf K)) l)).length ≤ 1000000 ∧ (ensL (leftL K (diffR (rawD m) (nf K)) l)).length ≤ 1000000 ∧ (leftL K (diffR (rawD m) (nf K)) l).length ≤ 1000000) :
  Calls Tryz.prog 15 #[vl, vm] w fun e w' => NaPost l m e w' ∧ Kp w w' := by
 have hml := hv.len
 unfold maxLen at hml
 obtain ⟨ad, cp, rfl⟩ := hv.slice
 obtain ⟨ae, cq, rfl⟩ := hu.slice
 have HV := Hd hv
 have HL := Hd hl
 have TT := Hd T
 have BD := Hd (fun w1 (kk : Kp w w1) => nwBounds_any _ m w1 (hu.kp kk) hm (T.kp kk) (by omega) (by omega))
 have NWH := Hd nW
 have NO := Hd (fun h => nar_no (l := l) (m := m) h)
 clear hv hu hl hm T
 go_enter Tryz.func15, Tryz.ntmps15
 go_wp2_with fail
 go_loopw [16] (fun i wr => ∃ k : Nat, k ≤ l.length ∧ i = .int .i64 k ∧ Hid (okEs (l.take k) = true) ∧ Hid (Kp w wr)) (fun i _ => l.length - (intOf i).toNat)
 case atStart => exact ⟨0, Nat.zero_le _, rfl, Hd rfl, Hd (Kp.refl _)⟩
 case round =>
  obtain ⟨k, hk, rfl, OKP, J⟩ := hrel
  by_cases hlt : k < l.length
  ·have q2 : decide ((k : Int) < (l.length : Int)) = true := dT
   have q3 : decide (k < l.length) = true := decide_eq_true hlt
   rcases HV.out.kp J.out with ⟨_, _, _, e⟩ | ⟨b0, off, cap, ev, hc, hmx, hx⟩
   ·rw [e] at hlt; simp at hlt
   cases ev
   obtain ⟨va, vb, d0, d1, d2, d3, ra, rb⟩ := hx k hlt
   have LOK := HL.out _ (lat_mem hlt)
   obtain ⟨f, hf⟩ : ∃ f, lat l k = f := ⟨_, rfl⟩
   rw [hf] at d0 d1 ra rb
   (try rw [hf] at LOK)
   obtain ⟨sp, u, a, b⟩ := f
   simp only at d0 d1 ra rb
   (try simp only at LOK)
   obtain ⟨aa, ca, rfl⟩ := ra.slice
   obtain ⟨ab, cb, rfl⟩ := rb.slice
   have HF := Hd hf
   have z1 : (k : Int) < (l.length : Int) := by omega
   have z2 : (0 : Int) ≤ (k : Int) := by omega
   clear hx hc hmx hf
   have FO : LeafOk wr ⟨sp, u, a, b⟩ _ _ := ⟨ra, rb, LOK.1, LOK.2.1, LOK.2.2.1, LOK.2.2.2⟩
   have EG := Hd (fun w1 (kk : Kp wr w1) => nwEdges_any ⟨sp, u, a, b⟩ _ _ w1 (FO.kp kk) (TT.out.kp (J.out.trans kk)))
   rw [show leafV ⟨sp, u, a, b⟩ (.slice aa a.length ca) (.slice ab b.length cb) = .agg #[.bool sp, .int .i64 u, .slice aa a.length ca, .slice ab b.length cb] from rfl] at EG
   have OKN := okEs_next hlt
   have NOK := fun g => okEs_no hlt g
   rw [HF.out, OKP.out, Bool.true_and] at OKN
   rw [HF.out] at NOK
   have OKH := Hd OKN
   have NOH := Hd NOK
   generalize startsR (famR ⟨sp, u, a, b⟩) = sF at *
   generalize endsR (famR ⟨sp, u, a, b⟩) = eF at *
   generalize okE ⟨sp, u, a, b⟩ = okf at *
   clear ra rb FO LOK HF HV HL TT OKN NOK
   have kkVV : Kp wr (wr.alloc (.cells #[.bool sp, .int .i64 u, .slice aa a.length ca, .slice ab b.length cb] 44)) := Kp.alloc _ _
   obtain ⟨V, hVv⟩ : ∃ x, x = wr.alloc (.cells #[.bool sp, .int .i64 u, .slice aa a.length ca, .slice ab b.length cb] 44) := ⟨_, rfl⟩
   have kav : Kp wr V := by rw [hVv]; exact Kp.alloc _ _
   have gqv0 : V.heap[wr.heap.size]? = some (.cells #[.bool sp, .int .i64 u, .slice aa a.length ca, .slice ab b.length cb] 44 (0, 0)) := by rw [hVv]; exact heap_at _ _ _ (by first | rfl | simp)
   rw [← hVv] at kkVV
   have KSv := Hd (fun w' (kq : Kp V w') => show w'.cell? ⟨wr.heap.size, 0, none⟩ = some (.bool sp) ∧ w'.cell? ⟨wr.heap.size, 1, none⟩ = some (.int .i64 u) ∧ w'.cell? ⟨wr.heap.size, 2, none⟩ = some (.slice aa a.length ca) ∧ w'.cell? ⟨wr.heap.size, 3, none⟩ = some (.slice ab b.length cb) ∧ Kp V w' from ⟨(row4 (heap_block kq gqv0)).1, (row4 (heap_block kq gqv0)).2.1, (row4 (heap_block kq gqv0)).2.2.1, (row4 (heap_block kq gqv0)).2.2.2, kq⟩)
   have GQv0 := Hd gqv0
   have HVv := Hd hVv
   have KV := Hd kav
   clear hVv kav gqv0
   have kkV : Kp V V := Kp.refl _
   obtain ⟨xv0, xv1, xv2, xv3, _⟩ := KSv.out _ kkV
   go_upto_region 4 with fail
   rw [← HVv.out]
   clear HVv d0 d1 d2 d3
   go_wp2_with fail
   refine (EG.out _ (KV.out.trans (ky kkV))).mono ?_
   rintro e we ⟨v8, v9, rfl, o8, o9, kq1⟩
   have kkwe : Kp V we := Kp.trans (show Kp V _ from (ky kkV)) kq1
   obtain ⟨a8, l8, rfl⟩ := own_slice o8
   obtain ⟨a9, l9, rfl⟩ := own_slice o9
   clear o8 o9
   clear kq1
   clear xv0 xv1 xv2 xv3
   obtain ⟨xv0, xv1, xv2, xv3, _⟩ := KSv.out _ kkwe
   cases okf with
   | true =>
    go_wp2
    go_roundw
    case rel => exact ⟨k + 1, by omega, by go_num, OKH, Hd (J.out.trans (KV.out.trans (ky kkwe)))⟩
    case measure => simp [intOf]; omega
   | false =>
    have e8 := Hd (NO.out (by rw [NOH.out rfl]; rfl))
    go_wp2
    exact bodyPost_ret (results_tmp2 rfl _ _ _) rfl ⟨⟨_, [], 8, rfl, .inl ⟨_, _, rfl, rfl⟩, e8.out⟩, J.out.trans (KV.out.trans (ky kkwe))⟩
  ·have q2 : decide ((k : Int) < (l.length : Int)) = false := dF
   have q3 : decide (k < l.length) = false := dF
   obtain rfl : k = l.length := by omega
   rw [List.take_length] at OKP
   go_wp2_with fail
   refine (BD.out _ J.out).mono ?_
   rintro e w1 ⟨⟨B0, B1⟩, k1⟩
   have K1 := Hd (J.out.trans k1)
   rcases Bool.eq_false_or_eq_true (okEs m) with om | om
   rotate_left
   ·obtain rfl := B0 om
    have e8 := Hd (NO.out (by rw [om, Bool.and_false]))
    clear B0 B1 k1
    go_wp2
    exact bodyPost_ret (results_tmp2 rfl _ _ _) rfl ⟨⟨_, [], 8, rfl, .inl ⟨_, _, rfl, rfl⟩, e8.out⟩, K1.out.trans (Kp.alloc _ _)⟩
   obtain ⟨vi, vd, K, rfl, rk, kK, rd⟩ := B1 om
   obtain ⟨ai, ci, rfl⟩ := rk.slice
   obtain ⟨aj, cj, rfl⟩ := rd.slice
   have RK := Hd rk
   have RD := Hd rd
   have dl := diffR_len (a := rawD m) (b := nf K)
   have kl := kK.len
   have nl := nf_len K
   obtain ⟨n1, n2, n3⟩ := NWH.out K kK
   have NT := nar_told (l := l) kK
   have GD := fun g hg => left_good K (diffR (rawD m) (nf K)) OKP.out (g := g) hg
   have NR := Hd (fun w2 (kk : Kp w1 w2) => nwNarrowed_any K (diffR (rawD m) (nf K)) _ _ (.slice ad l.length cp) l w2 (RK.out.kp kk) (RD.out.kp kk) (HV.out.kp (K1.out.trans kk)) HL.out (TT.out.kp (K1.out.trans kk)) (fun r hr => rawI_in (kK.sub r hr)) kK.up (diffR_sane _ _) (by omega) (by omega) n3)
   generalize diffR (rawD m) (nf K) = D at *
   have IW := Hd (fun v w2 (kk : Kp w w2) (h : LeavesAt w2 v (leftL K D l)) => nwIsWide_any v (leftL K D l) w2 h (good_ok GD) (TT.out.kp kk) n1 n2)
   have EN : narE l m (leftL K D l) = if (leftL K D l).length = 0 then 9 else if wideB (leftL K D l) = true then 8 else 0 := by
    unfold narE
    rw [OKP.out, om, Bool.true_and, if_neg (by decide)]
   unfold narL at NT
   generalize leftL K D l = L at *
   generalize wideB L = wb at *
   rw [EN] at NT
   have HNT := Hd NT
   clear rk rd kK kl dl nl n1 n2 n3 NT GD NWH B0 B1 EN om BD HV HL TT NO k1
   go_wp2_with fail
   refine (NR.out _ (Kp.alloc _ _)).mono ?_
   rintro e w2 ⟨v2, mm, rfl, hmm, ov, ow, k2⟩
   obtain ⟨a2, l2, rfl⟩ := own_slice4 ow
   have lL : mm.length = L.length := by rw [← hmm, List.length_map]
   have LV := Hd (show LeavesAt w2 (.slice a2 mm.length l2) L from by have h := leavesAt_own ow ov.reads; rwa [hmm] at h)
   rw [lL] at LV ⊢
   have K2 := Hd (K1.out.trans ((Kp.alloc _ _).trans k2))
   clear hmm ov ow k2 lL RK RD NR
   by_cases h0 : L.length = 0
   ·have g1 : ((L.length : Int) == 0) = true := by rw [h0]; rfl
    have e9 := HNT.out
    rw [if_pos h0, if_neg (by decide)] at e9
    have E9 := Hd e9
    clear e9 h0
    go_wp2
    exact bodyPost_ret (results_tmp2 rfl _ _ _) rfl ⟨⟨_, [], 9, rfl, .inl ⟨_, _, rfl, rfl⟩, E9.out⟩, K2.out⟩
   have g1 : ((L.length : Int) == 0) = false := by rw [beq_eq_false_iff_ne]; omega
   have e9 := HNT.out
   rw [if_neg h0] at e9
   clear h0 HNT
   go_wp2_with fail
   refine (IW.out _ _ K2.out LV.out).mono ?_
   rintro e w3 ⟨rfl, k3⟩
   have K3 := Hd (K2.out.trans k3)
   have LV3 := Hd (LV.out.kp k3)
   clear k3 IW
   cases wb with
   | true =>
    rw [if_pos rfl, if_neg (by decide)] at e9
    have E9 := Hd e9
    clear e9
    go_wp2
    exact bodyPost_ret (results_tmp2 rfl _ _ _) rfl ⟨⟨_, [], 8, rfl, .inl ⟨_, _, rfl, rfl⟩, E9.out⟩, K3.out⟩
   | false =>
    rw [if_neg (by decide), if_pos rfl] at e9
    have E9 := Hd e9
    clear e9
    go_wp2
    exact bodyPost_ret (results_tmp2 rfl _ _ _) rfl ⟨⟨_, L, 0, rfl, LV3.out, E9.out⟩, K3.out⟩
theorem flat_bd {α β : Type} (l : List α) (f : α → List β) (W : Nat) (h : ∀ x ∈ l, (f x).length ≤ W) : (l.flatMap f).length ≤ l.length * W := by
 induction l with
 | nil => simp
 | cons a t ih =>
  have h1 := h a List.mem_cons_self
  have h2 := ih (fun x hx => h x (List.mem_cons_of_mem _ hx))
  rw [List.flatMap_cons, List.length_append, List.length_cons, Nat.add_mul]
  omega
theorem tidy_len (f : LF) : (lfOf (famR f)).a.length ≤ f.a.length ∧ (lfOf (famR f)).b.length ≤ f.b.length := by
 have z : lf0.a.length ≤ f.a.length ∧ lf0.b.length ≤ f.b.length := ⟨Nat.zero_le _, Nat.zero_le _⟩
 rcases Bool.eq_false_or_eq_true (leafB f) with hf | hf
 ·rcases Bool.eq_false_or_eq_true f.sp with hs | hs
  ·by_cases h0 : f.a.length = 0 ∨ f.b.length = 0
   ·rw [famR_none hf hs h0, lfOf_s0 rfl]; exact z
   ·rw [famR_span hf hs h0]
    by_cases h1 : (interR f.a [(0, greatR f.b)]).length = 0
    ·rw [lfOf_s0 h1]; exact z
    ·rw [lfOf_s1 h1]; exact ⟨interR_le _ _, interR_le _ _⟩
  ·rw [famR_units hf hs]
   by_cases h1 : f.a.length = 0
   ·rw [lfOf_u0 h1]; exact z
   ·rw [lfOf_u1 h1]; exact ⟨Nat.le_refl _, Nat.zero_le _⟩
 ·rw [famR_no hf, lfOf_u0 rfl]; exact z
theorem chunks_len (k : Int) (s : List R) : (chunksR k s).length = (s.length + 399) / 400 := by simp [chunksR, chunksN]
theorem chunks_sts (k : Int) (s : List R) : (stsL (chunksR k s)).length ≤ s.length + 399 ∧ (ensL (chunksR k s)).length ≤ s.length + 399 ∧ (chunksR k s).length ≤ s.length := by
 have h1 := flat_bd (chunksR k s) (fun f => startsR (famR f)) 400 (fun x _ => starts_len _)
 have h2 := flat_bd (chunksR k s) (fun f => endsR (famR f)) 400 (fun x _ => ends_len _)
 have := chunks_len k s
 unfold stsL ensL
 omega
theorem part_sts {s e : List R} (hs : setB 0 s = true) (he : setB 0 e = true) (r : R) : (stsL (partF s e r)).length ≤ s.length ∧ (ensL (partF s e r)).length ≤ e.length ∧ (partF s e r).length ≤ 1 := by
 unfold partF
 by_cases h0 : emptyF (famR (cutLF s e r)) = true
 ·rw [if_pos h0]; simp [stsL, ensL]
 ·rw [if_neg h0]
  obtain ⟨a, b, e1, n1, n2⟩ := famR_cut_span hs he r
  have e2 : famR (partG s e r) = .span a b := by
   rw [partG, famR_lfOf (famR_ok _), if_neg h0, e1]
  simp only [stsL, ensL, List.flatMap_cons, List.flatMap_nil, List.append_nil, e2, startsR, endsR]
  refine ⟨?_, ?_, by simp⟩
  ·split
   ·exact n1
   ·simp
  ·split
   ·exact n2
   ·simp
theorem sts_append (l m : List LF) : stsL (l ++ m) = stsL l ++ stsL m := by simp [stsL]
theorem ens_append (l m : List LF) : ensL (l ++ m) = ensL l ++ ensL m := by simp [ensL]
theorem sts_flat {α : Type} (l : List α) (f : α → List LF) : stsL (l.flatMap f) = l.flatMap fun x => stsL (f x) := by simp [stsL, List.flatMap_assoc]
theorem ens_flat {α : Type} (l : List α) (f : α → List LF) : ensL (l.flatMap f) = l.flatMap fun x => ensL (f x) := by simp [ensL, List.flatMap_assoc]
theorem out_bd {K D : List R} {f : LF} {A : Nat} (ha : f.a.length ≤ A) (hb : f.b.length ≤ A) (sd : sane D) :
  (stsL (outF K D f)).length ≤ 2 * A + K.length + D.length + 399 + K.length * A ∧ (ensL (outF K D f)).length ≤ 2 * A + K.length + D.length + 399 + K.length * A ∧ (outF K D f).length ≤ 2 * A + 2 * K.length + D.length := by
 obtain ⟨t1, t2⟩ := tidy_len f
 unfold outF
 rcases tidy_cases f with ⟨k, s, hg, sb⟩ | ⟨s, e, hg, s1, s2, _, _⟩
 ·rw [hg] at t1 t2 ⊢
  rw [outT_un]
  have h1 := chunks_sts k (unsR K D ⟨false, k, s, []⟩)
  have h2 := unsR_len (K := K) (D := D) (k := k) (setB_sane sb)
  simp only at t1
  omega
 ·rw [hg] at t1 t2 ⊢
  rw [outT_sp, sts_append, ens_append, List.length_append, List.length_append, List.length_append, sts_flat, ens_flat]
  have h1 := chunks_sts 0 (interR (interR s e) D)
  have h2 := interR_len (setB_sane s1) (setB_sane s2)
  have h3 := interR_len (interR_sane s e) sd
  simp only at t1 t2
  have h4 := flat_bd K (fun r => stsL (partF s e r)) A (fun r _ => Nat.le_trans (part_sts s1 s2 r).1 (by omega))
  have h5 := flat_bd K (fun r => ensL (partF s e r)) A (fun r _ => Nat.le_trans (part_sts s1 s2 r).2.1 (by omega))
  have h6 := flat_bd K (partF s e) 1 (fun r _ => (part_sts s1 s2 r).2.2)
  omega
theorem left_bd {K D : List R} {l : List LF} {A W : Nat} (h : ∀ f ∈ l, f.a.length ≤ A ∧ f.b.length ≤ A) (sd : sane D) (hW : 2 * A + 2 * K.length + D.length + 399 + K.length * A ≤ W) :
  (stsL (leftL K D l)).length ≤ l.length * W ∧ (ensL (leftL K D l)).length ≤ l.length * W ∧ (leftL K D l).length ≤ l.length * W := by
 unfold leftL
 rw [sts_flat, ens_flat]
 refine ⟨flat_bd _ _ _ fun f hf => ?_, flat_bd _ _ _ fun f hf => ?_, flat_bd _ _ _ fun f hf => ?_⟩
 ·have := (out_bd (K := K) (h f hf).1 (h f hf).2 sd).1; omega
 ·have := (out_bd (K := K) (h f hf).1 (h f hf).2 sd).2.1; omega
 ·have := (out_bd (K := K) (h f hf).1 (h f hf).2 sd).2.2; omega
def Sml (l : List LF) : Prop := (∀ f ∈ l, f.a.length ≤ 40 ∧ f.b.length ≤ 40) ∧ l.length ≤ 12
theorem nW_of {l m : List LF} (hl : Sml l) (kI : (rawI m).length ≤ 120) (dD : (rawD m).length ≤ 480) : ∀ K, KeptOk (rawI m) K → (stsL (leftL K (diffR (rawD m) (nf K)) l)).length ≤ 1000000 ∧ (ensL (leftL K (diffR (rawD m) (nf K)) l)).length ≤ 1000000 ∧ (leftL K (diffR (rawD m) (nf K)) l).length ≤ 1000000 := by
 intro K hK
 have h1 := hK.len
 have h2 := nf_len K
 have h3 := diffR_len (a := rawD m) (b := nf K)
 have h4 := left_bd (K := K) (D := diffR (rawD m) (nf K)) (l := l) (A := 40) (W := 7000) hl.1 (diffR_sane _ _) (by omega)
 have h5 := hl.2
 have h6 : l.length * 7000 ≤ 12 * 7000 := Nat.mul_le_mul_right _ h5
 omega
theorem itv_len (f : LF) : ((itvF (famR f)).length : Int) ≤ uniF f := by
 have up : 0 ≤ (if f.sp = false ∧ f.u ≠ 0 then sumR (nf f.a) else 0) := by
  split
  ·obtain ⟨b1, b2⟩ := sumR_bd (nf f.a) (-1099511627776) (nf_sane f.a) (fun r t e => by have h := nf_sane f.a; rw [e] at h; exact (sane_head h).2.1) (by omega)
   omega
  ·omega
 have u1 : 1 ≤ uniF f := by unfold uniF; omega
 rcases Bool.eq_false_or_eq_true (leafB f) with hf | hf
 ·rcases Bool.eq_false_or_eq_true f.sp with hs | hs
  ·have : (itvF (famR f)).length ≤ 1 := by
    by_cases h0 : f.a.length = 0 ∨ f.b.length = 0
    ·rw [famR_none hf hs h0]; simp [itvF]
    ·rw [famR_span hf hs h0]; simp only [itvF]; split <;> simp
   omega
  ·rw [famR_units hf hs]
   by_cases hu : f.u = 0
   ·rw [hu]
    simp only [itvF, if_true, List.length_nil]
    omega
   ·simp only [itvF, if_neg hu]
    have sa := (leafB_units hf hs).2.1
    unfold uniF
    rw [if_pos ⟨hs, hu⟩, nf_of_sane (setB_sane sa), sum_nums f.a (fun r hr => (sane_ok (setB_sane sa) r hr).1)]
    simp only [pairsF, List.length_map]
    omega
 ·rw [famR_no hf]
  simp only [itvF, if_true, List.length_nil]
  omega
theorem rawI_len : ∀ m : List LF, ((rawI m).length : Int) ≤ unitsN m
 | [] => by simp [rawI, unitsN]
 | f :: m => by
  have h1 := itv_len f
  have h2 := rawI_len m
  unfold rawI at h2 ⊢
  rw [List.flatMap_cons, List.length_append]
  unfold unitsN
  push_cast
  omega
theorem day_len (f : LF) : (dayF (famR f)).length ≤ f.a.length := by
 rcases Bool.eq_false_or_eq_true (leafB f) with hf | hf
 ·rcases Bool.eq_false_or_eq_true f.sp with hs | hs
  ·by_cases h0 : f.a.length = 0 ∨ f.b.length = 0
   ·rw [famR_none hf hs h0]; simp [dayF]
   ·rw [famR_span hf hs h0]; simp [dayF]
  ·rw [famR_units hf hs]
   simp only [dayF]
   split <;> simp
 ·rw [famR_no hf]; simp [dayF]
theorem rawD_len {m : List LF} {A : Nat} (h : ∀ f ∈ m, f.a.length ≤ A) : (rawD m).length ≤ m.length * A := flat_bd m _ A fun f hf => Nat.le_trans (day_len f) (h f hf)
def few22 (l : List LF) : Bool := fewL l && (decide (unitsN l ≤ 60) && decide (l.length ≤ 6))
theorem few22_told {l : List LF} (h : few22 l = true) (g : ∀ f ∈ l, LeafG f) : LsOk l ∧ Sml l ∧ l.length ≤ 6 ∧ (rawI l).length ≤ 60 ∧ (rawD l).length ≤ 240 := by
 unfold few22 at h
 rw [Bool.and_eq_true, Bool.and_eq_true, decide_eq_true_eq, decide_eq_true_eq] at h
 obtain ⟨h1, h2, h3⟩ := h
 have ok := (fewL_ok h1 g).1
 have sm : ∀ f ∈ l, f.a.length ≤ 40 ∧ f.b.length ≤ 40 := fun f hf => by
  unfold fewL at h1
  rw [Bool.and_eq_true, List.all_eq_true] at h1
  exact fewB_yes (h1.1 f hf)
 have r1 := rawI_len l
 have r2 := rawD_len (A := 40) fun f hf => (sm f hf).1
 exact ⟨ok, ⟨sm, by omega⟩, h3, by omega, by omega⟩
theorem wide_pairs {l m : List LF} (h : wideS (leftP l m)) : 400 < (l.flatMap fun f => pairsF (famR f)).length := by
 obtain ⟨s, hs, n, g⟩ := h
 have mem : ∀ S T, hasL l S T = true → (S, T) ∈ l.flatMap fun f => pairsF (famR f) := fun S T q => by
  obtain ⟨f, hf, q⟩ := (hasL_iff _ _ _).1 q
  exact List.mem_flatMap.2 ⟨f, hf, (mem_pairs (famR_ok f) S T).2 q⟩
 have nd := ends_nodup hs
 have me : ∀ x ∈ s.map (·.2), memR s x := fun x hx => by
  obtain ⟨r, hr, rfl⟩ := List.mem_map.1 hx
  exact span_sane hs hr (sane_ok hs r hr).1 (Int.le_refl _)
 rcases g with g | g
 ·have := nodup_le nd (m := (l.flatMap fun f => pairsF (famR f)).map (·.1)) fun x hx => by
   obtain ⟨T, q⟩ := (g x).1 (me x hx)
   exact List.mem_map.2 ⟨_, mem x T q.1, rfl⟩
  rw [List.length_map, List.length_map] at this
  omega
 ·have := nodup_le nd (m := (l.flatMap fun f => pairsF (famR f)).map (·.2)) fun x hx => by
   obtain ⟨S, q⟩ := (g x).1 (me x hx)
   exact List.mem_map.2 ⟨_, mem S x q.1, rfl⟩
  rw [List.length_map, List.length_map] at this
  omega
end Go.Proofs.YtcooaoponkkpeaaGreatDoor
