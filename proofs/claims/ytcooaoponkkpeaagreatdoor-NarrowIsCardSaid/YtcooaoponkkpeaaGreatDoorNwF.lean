import Derived.Test.YtcooaoponkkpeaaGreatDoorJF
import Derived.Test.YtcooaoponkkpeaaGreatDoorJC
set_option maxHeartbeats 16000000
set_option maxRecDepth 100000
namespace Go.Proofs.YtcooaoponkkpeaaGreatDoor
open Go.RowKit
set_option linter.unusedVariables false
set_option linter.unusedSimpArgs false
theorem flat_next {α β : Type} (l : List α) (d : α) (f : α → List β) (k : Nat) (h : k < l.length) : (l.take (k + 1)).flatMap f = (l.take k).flatMap f ++ f (l.getD k d) := by
 rw [List.take_add_one, List.getElem?_eq_getElem h, List.flatMap_append]
 simp [List.getD_eq_getElem?_getD, List.getElem?_eq_getElem h]
theorem flat_pre {α β : Type} (l : List α) (f : α → List β) (k : Nat) : ((l.take k).flatMap f).length ≤ (l.flatMap f).length := by
 conv => rhs; rw [← List.take_append_drop k l, List.flatMap_append, List.length_append]
 omega
theorem rawI_next {m : List LF} {k : Nat} (h : k < m.length) : rawI (m.take (k + 1)) = rawI (m.take k) ++ itvF (famR (lat m k)) := flat_next m _ (fun f => itvF (famR f)) k h
theorem rawD_next {m : List LF} {k : Nat} (h : k < m.length) : rawD (m.take (k + 1)) = rawD (m.take k) ++ dayF (famR (lat m k)) := flat_next m _ (fun f => dayF (famR f)) k h
theorem okEs_next {m : List LF} {k : Nat} (h : k < m.length) : okEs (m.take (k + 1)) = (okEs (m.take k) && okE (lat m k)) := by
 unfold okEs
 rw [take_lat m k h, List.all_append]
 simp
theorem okEs_no {m : List LF} {k : Nat} (h : k < m.length) (g : okE (lat m k) = false) : okEs m = false := by
 unfold okEs
 rcases Bool.eq_false_or_eq_true (m.all okE) with q | q
 ·rw [List.all_eq_true.1 q _ (lat_mem h)] at g; cases g
 ·exact q
theorem raw_none {F : Fam} (h : emptyF F = true) : itvF F = [] ∧ dayF F = [] := by
 cases F with
 | units k s =>
  rw [emptyF_u] at h
  have : s = [] := List.length_eq_zero_iff.1 (by simpa using h)
  subst this
  simp only [itvF, dayF]
  constructor
  ·split
   ·rfl
   ·simp [pairsF, nums]
  ·split <;> rfl
 | span s e =>
  rw [emptyF_s] at h
  simp only [itvF, dayF]
  rw [if_pos (by simpa using h)]
  exact ⟨rfl, trivial⟩
theorem famR_sp {f : LF} (h : emptyF (famR f) = false) (hs : f.sp = true) : ∃ s e, famR f = .span s e ∧ 0 < s.length := by
 rcases Bool.eq_false_or_eq_true (leafB f) with hf | hf
 ·by_cases h0 : f.a.length = 0 ∨ f.b.length = 0
  ·rw [famR_none hf hs h0, emptyF_s] at h
   simp at h
  ·refine ⟨_, _, famR_span hf hs h0, ?_⟩
   rw [famR_span hf hs h0, emptyF_s] at h
   simpa [Nat.pos_iff_ne_zero] using h
 ·rw [famR_no hf, emptyF_u] at h
  simp at h
theorem famR_un {f : LF} (h : emptyF (famR f) = false) (hs : f.sp = false) : ∃ s, famR f = .units f.u s ∧ 0 < s.length := by
 rcases Bool.eq_false_or_eq_true (leafB f) with hf | hf
 ·refine ⟨_, famR_units hf hs, ?_⟩
  rw [famR_units hf hs, emptyF_u] at h
  simpa [Nat.pos_iff_ne_zero] using h
 ·rw [famR_no hf, emptyF_u] at h
  simp at h
theorem raw_span {s e : List R} (h0 : 0 < s.length) (h : FOK (.span s e)) (ok : startsB (.span s e) = true) (ok2 : endsB (.span s e) = true) :
  startsR (.span s e) = s ∧ endsR (.span s e) = e ∧ itvF (.span s e) = [(leastR s, greatR e)] ∧ dayF (.span s e) = [] ∧ sane s ∧ sane e ∧ 0 < e.length := by
 simp only [startsB, endsB, decide_eq_true_eq] at ok ok2
 refine ⟨by simp only [startsR]; rw [if_pos ok], by simp only [endsR]; rw [if_pos ok2], by simp only [itvF]; rw [if_neg (by omega)], rfl, setB_sane h.1, setB_sane h.2.1, (span_lg h h0).1⟩
theorem raw_day {s : List R} (h : setB 0 s = true) (ok : startsB (.units 0 s) = true) : startsR (.units 0 s) = s ∧ itvF (.units 0 s) = [] ∧ dayF (.units 0 s) = s := by
 have ok : edgB 0 s = true := ok
 have e1 : startsR (.units 0 s) = s := by
  simp only [startsR]
  rw [edgR_fir, if_pos ok, if_pos rfl, setB_units h]
 exact ⟨e1, by simp [itvF], by simp [dayF]⟩
theorem tog_sing (a b : List Int) (h : a.length = b.length) : togN (sing a) (sing b) a.length = a.zip b := by
 apply List.ext_getElem
 ·simp [togN, h]
 ·intro i h1 h2
  have ha : i < a.length := by simpa [togN] using h1
  have hb : i < b.length := by omega
  simp only [togN, List.getElem_map, List.getElem_range, List.getElem_zip]
  rw [sing_at a i ha, sing_at b i hb]
  simp [List.getD_eq_getElem?_getD, ha, hb]
theorem raw_unit {k : Int} {s : List R} (h : setB k s = true) (k0 : k ≠ 0) (ok : startsB (.units k s) = true) :
  itvF (.units k s) = togN (startsR (.units k s)) (endsR (.units k s)) (startsR (.units k s)).length ∧ dayF (.units k s) = [] ∧ (startsR (.units k s)).length ≤ (endsR (.units k s)).length := by
 have ok : edgB k s = true := ok
 have e1 : startsR (.units k s) = sing ((nums s).map (firV k)) := by
  simp only [startsR]
  rw [edgR_fir, if_pos ok, if_neg k0, setB_units h]
 have e2 : endsR (.units k s) = sing ((nums s).map (lasV k)) := by
  simp only [endsR]
  rw [edgR_las, if_pos ok, if_neg k0, setB_units h]
 rw [e1, e2, sing_len]
 refine ⟨?_, by simp [dayF, k0], by simp [sing]⟩
 rw [tog_sing _ _ (by simp)]
 simp only [itvF]
 rw [if_neg k0]
 unfold pairsF
 rw [List.zip_map']
theorem own_setB {w : World} {base : Nat} {e : TypeId} {size : Nat} {v : Value} {n : Nat} {xs : List Value} (h : w.ownsRow base e size v n xs) {B : Nat} (hB : B < base) (o : Nat) (u : Value) : (w.setCell ⟨B, o, none⟩ u).ownsRow base e size v n xs :=
 own_apart (v := .slice (some ⟨B, 0, none⟩) 1 1) h (grown_set w B o u) (fun k e1 e2 => by
  have e3 : B = k := by simpa [Value.ownBlock] using e1
  have := (h.lt _ e2).1
  omega)
theorem rawI_i64 (m : List LF) : I64R (rawI m) := fun r hr => by
 have := rawI_in hr
 omega
theorem rawD_i64 (m : List LF) : I64R (rawD m) := fun r hr => by
 obtain ⟨f, _, hr⟩ := List.mem_flatMap.1 hr
 have ok := famR_ok f
 revert ok hr
 generalize famR f = F
 intro hr ok
 cases F with
 | units k s =>
  by_cases k0 : k = 0
  ·subst k0
   simp only [dayF, if_true] at hr
   exact sane_i64 (setB_sane ok) r hr
  ·simp only [dayF] at hr
   rw [if_neg k0] at hr
   cases hr
 | span s e => cases hr
theorem kp_setN {W w : World} (k : Kp W w) {b o : Nat} (hb : W.heap.size ≤ b) (u : Value) : Kp W (w.setCell ⟨b, o, none⟩ u) := Below.setCell k (p := ⟨b, o, none⟩) hb u
theorem diff_same {m : List LF} {K L' : List R} (h : KeptOk (rawI m) K) (g : ∀ p, p ∈ L' ↔ p ∈ rawI m) : diffR (rawD m) (nf L') = diffR (rawD m) (nf K) := by
 refine sane_ext (diffR_sane _ _) (diffR_sane _ _) fun n => ?_
 rw [diffR_mem, diffR_mem, nf_mem, nf_mem]
 have : memR L' n ↔ memR K n := by
  constructor
  ·rintro ⟨r, hr, a, b, c, d⟩
   obtain ⟨q, hq, x, y⟩ := h.cov r ((g r).1 hr)
   exact ⟨q, hq, by omega, by omega, c, d⟩
  ·rintro ⟨r, hr, a⟩
   exact ⟨r, (g r).2 (h.sub r hr), a⟩
 rw [this]
def BdPost (m : List LF) (e : Ending) (w' : World) : Prop :=
 (okEs m = false → e = .returned (.tuple #[.agg #[.slice none 0 0, .slice none 0 0], .bool false])) ∧ (okEs m = true → ∃ vi vd K, e = .returned (.tuple #[.agg #[vi, vd], .bool true]) ∧ RunsAt w' vi K ∧ KeptOk (rawI m) K ∧ RunsAt w' vd (diffR (rawD m) (nf K)))
theorem nwBounds_any (v : Value) (m : List LF) (w : World) (hv : LeavesAt w v m) (hl : LsOk m) (T : Tabs w) (nI : (rawI m).length ≤ 1000000) (nD : (rawD m).length ≤ 1000000) :
  Calls Tryz.prog 35 #[v] w fun e w' => BdPost m e w' ∧ Kp w w' := by
 obtain ⟨i0, hi, hz0, hz1, hz2⟩ := info_parts infoR
 have hm := hv.len
 unfold maxLen at hm
 obtain ⟨ad, cp, rfl⟩ := hv.slice
 obtain ⟨W0, hW⟩ : ∃ x, x = w.alloc (.cells #[.slice none 0 0, .slice none 0 0] 63) := ⟨_, rfl⟩
 have k0 : Kp w W0 := by rw [hW]; exact Kp.alloc _ _
 have g0 : W0.heap[w.heap.size]? = some (.cells #[.slice none 0 0, .slice none 0 0] 63 (0, 0)) := by rw [hW]; exact heap_at _ _ _ rfl
 have HB := Hd (fun w' (kq : Kp W0 w') => heap_block kq g0)
 have K0 := Hd k0
 have HV := Hd (hv.kp k0)
 have HL := Hd hl
 have TT := Hd (T.kp k0)
 have hB : w.heap.size < W0.heap.size := by rw [hW]; simp
 have HW := Hd hW
 have NRI := Hd (fun k => Nat.le_trans (flat_pre m (fun f => itvF (famR f)) k) nI)
 have NRD := Hd (fun k => Nat.le_trans (flat_pre m (fun f => dayF (famR f)) k) nD)
 clear hv hl T k0 g0 hW nI nD
 go_enter Tryz.func35, Tryz.ntmps35
 go_wp2_with fail
 rw [← HW.out]
 clear HW
 go_loopw [4, 5, 13] (fun v u i wr => ∃ k : Nat, k ≤ m.length ∧ i = .int .i64 k ∧ Hid (OwnR wr W0.heap.size v (rawI (m.take k))) ∧ Hid (OwnR wr W0.heap.size u (rawD (m.take k))) ∧ Hid (Apart v u) ∧ Hid (okEs (m.take k) = true) ∧ Hid (Kp W0 wr)) (fun _ _ i _ => m.length - (intOf i).toNat)
 case atStart => exact ⟨0, Nat.zero_le _, rfl, Hd (World.ownsRow_nil _ _ _ _), Hd (World.ownsRow_nil _ _ _ _), Hd (Apart.nil _), Hd rfl, Hd (Kp.refl _)⟩
 case round =>
  obtain ⟨k, hk, rfl, O4, O5, AP, OKP, J⟩ := hrel
  have o4 := O4.out
  have o5 := O5.out
  unfold OwnR at o4 o5
  obtain ⟨a4, l4, rfl⟩ := own_slice o4
  obtain ⟨a5, l5, rfl⟩ := own_slice o5
  by_cases hlt : k < m.length
  ·have q2 : decide ((k : Int) < (m.length : Int)) = true := dT
   have q3 : decide (k < m.length) = true := decide_eq_true hlt
   rcases HV.out.kp J.out with ⟨_, _, _, e⟩ | ⟨b0, off, cap, ev, hc, hmx, hx⟩
   ·rw [e] at hlt; simp at hlt
   cases ev
   obtain ⟨va, vb, d0, d1, d2, d3, ra, rb⟩ := hx k hlt
   have LOK := HL.out _ (lat_mem hlt)
   obtain ⟨f, hf⟩ : ∃ f, lat m k = f := ⟨_, rfl⟩
   rw [hf] at d0 d1 ra rb
   (try rw [hf] at LOK)
   obtain ⟨sp, u, a, b⟩ := f
   simp only at d0 d1 ra rb
   (try simp only at LOK)
   obtain ⟨aa, ca, rfl⟩ := ra.slice
   obtain ⟨ab, cb, rfl⟩ := rb.slice
   have HF := Hd hf
   have z1 : (k : Int) < (m.length : Int) := by omega
   have z2 : (0 : Int) ≤ (k : Int) := by omega
   clear hx hc hmx hf
   have FO : LeafOk wr ⟨sp, u, a, b⟩ _ _ := ⟨ra, rb, LOK.1, LOK.2.1, LOK.2.2.1, LOK.2.2.2⟩
   have EG := Hd (fun w1 (kk : Kp wr w1) => nwEdges_any ⟨sp, u, a, b⟩ _ _ w1 (FO.kp kk) (TT.out.kp (J.out.trans kk)))
   have EM := Hd (fun w1 (kk : Kp wr w1) => leafEmpty_any ⟨sp, u, a, b⟩ _ _ w1 (FO.kp kk) (TT.out.kp (J.out.trans kk)).2)
   rw [show leafV ⟨sp, u, a, b⟩ (.slice aa a.length ca) (.slice ab b.length cb) = .agg #[.bool sp, .int .i64 u, .slice aa a.length ca, .slice ab b.length cb] from rfl] at EG EM
   have ok := famR_ok ⟨sp, u, a, b⟩
   have RIN := rawI_next hlt
   have RDN := rawD_next hlt
   have OKN0 := okEs_next hlt
   have NO0 := fun g => okEs_no hlt g
   have n4' := NRI.out (k + 1)
   have n5' := NRD.out (k + 1)
   rw [show (m.take (k + 1)).flatMap (fun f => itvF (famR f)) = rawI (m.take (k + 1)) from rfl, RIN, List.length_append] at n4'
   rw [show (m.take (k + 1)).flatMap (fun f => dayF (famR f)) = rawD (m.take (k + 1)) from rfl, RDN, List.length_append] at n5'
   rw [HF.out] at RIN RDN n4' n5' OKN0 NO0
   rw [OKP.out, Bool.true_and] at OKN0
   have ls := starts_len (famR ⟨sp, u, a, b⟩)
   have le := ends_len (famR ⟨sp, u, a, b⟩)
   have FSP := fun h hs => famR_sp (f := ⟨sp, u, a, b⟩) h hs
   have FUN := fun h hs => famR_un (f := ⟨sp, u, a, b⟩) h hs
   simp only at FSP FUN
   have kkVV : Kp wr (wr.alloc (.cells #[.bool sp, .int .i64 u, .slice aa a.length ca, .slice ab b.length cb] 44)) := Kp.alloc _ _
   generalize rawI (m.take k) = X at *
   generalize rawD (m.take k) = D at *
   obtain ⟨x4, hn4⟩ : ∃ x, X.length = x := ⟨_, rfl⟩
   obtain ⟨x5, hn5⟩ : ∃ x, D.length = x := ⟨_, rfl⟩
   rw [hn4] at o4 n4' AP ⊢
   rw [hn5] at o5 n5' AP ⊢
   have HN4 := Hd hn4
   have HN5 := Hd hn5
   clear ra rb FO LOK HF NRI NRD O4 O5 hn4 hn5 HV HL TT
   rcases Bool.eq_false_or_eq_true (okE ⟨sp, u, a, b⟩) with ok1 | ok1
   rotate_left
   ·have NO := Hd (NO0 ok1)
    rw [ok1] at EG
    clear ok RIN RDN OKN0 NO0 n4' n5' FSP FUN ok1 EM
    generalize startsR (famR ⟨sp, u, a, b⟩) = sF at *
    generalize endsR (famR ⟨sp, u, a, b⟩) = eF at *
    obtain ⟨V, hVv⟩ : ∃ x, x = wr.alloc (.cells #[.bool sp, .int .i64 u, .slice aa a.length ca, .slice ab b.length cb] 44) := ⟨_, rfl⟩
    have kav : Kp wr V := by rw [hVv]; exact Kp.alloc _ _
    have gqv0 : V.heap[wr.heap.size]? = some (.cells #[.bool sp, .int .i64 u, .slice aa a.length ca, .slice ab b.length cb] 44 (0, 0)) := by rw [hVv]; exact heap_at _ _ _ (by first | rfl | simp)
    rw [← hVv] at kkVV
    have KSv := Hd (fun w' (kq : Kp V w') => show w'.cell? ⟨wr.heap.size, 0, none⟩ = some (.bool sp) ∧ w'.cell? ⟨wr.heap.size, 1, none⟩ = some (.int .i64 u) ∧ w'.cell? ⟨wr.heap.size, 2, none⟩ = some (.slice aa a.length ca) ∧ w'.cell? ⟨wr.heap.size, 3, none⟩ = some (.slice ab b.length cb) ∧ Kp V w' from ⟨(row4 (heap_block kq gqv0)).1, (row4 (heap_block kq gqv0)).2.1, (row4 (heap_block kq gqv0)).2.2.1, (row4 (heap_block kq gqv0)).2.2.2, kq⟩)
    have GQv0 := Hd gqv0
    have HVv := Hd hVv
    have KV := Hd kav
    clear hVv kav gqv0
    have kkV : Kp V V := Kp.refl _
    have OW4 := Hd (own_kp o4 KV.out)
    have OW5 := Hd (own_kp o5 KV.out)
    have KWV := Hd (J.out.trans KV.out)
    have bs := Below.size KWV.out
    clear o4 o5
    obtain ⟨xv0, xv1, xv2, xv3, _⟩ := KSv.out _ kkV
    go_upto_region 5 with fail
    rw [← HVv.out]
    clear HVv d0 d1 d2 d3
    go_wp2_with fail
    refine (EG.out _ (KV.out.trans (ky kkV))).mono ?_
    rintro e we ⟨v8, v9, rfl, o8, o9, kq1⟩
    have kkwe : Kp V we := Kp.trans (show Kp V _ from (ky kkV)) kq1
    obtain ⟨a8, l8, rfl⟩ := own_slice o8
    obtain ⟨a9, l9, rfl⟩ := own_slice o9
    have O8 := Hd o8
    have O9 := Hd o9
    clear o8 o9
    clear kq1
    clear xv0 xv1 xv2 xv3
    obtain ⟨xv0, xv1, xv2, xv3, _⟩ := KSv.out _ kkwe
    clear xv0 xv1 xv2 xv3
    have hb := HB.out _ (J.out.trans (KV.out.trans kkwe))
    have f0 : we.frozen? ⟨w.heap.size, 0, none⟩ = false := by simp [World.frozen?, hb]
    have f1 : we.frozen? ⟨w.heap.size, 1, none⟩ = false := by simp [World.frozen?, hb]
    have e0 : we.cell? ⟨w.heap.size, 0, none⟩ = some (.slice none 0 0) := (row2 hb).1
    have e1 : we.cell? ⟨w.heap.size, 1, none⟩ = some (.slice none 0 0) := (row2 hb).2
    have g3 := bx_heap1 hb 0 (.slice none 0 0)
    have g4 := bx_heap1 g3 1 (.slice none 0 0)
    have x0 : ((we.setCell ⟨w.heap.size, 0, none⟩ (.slice none 0 0)).setCell ⟨w.heap.size, 1, none⟩ (.slice none 0 0)).cell? ⟨w.heap.size, 0, none⟩ = some (.slice none 0 0) := (row2 g4).1
    have x1 : ((we.setCell ⟨w.heap.size, 0, none⟩ (.slice none 0 0)).setCell ⟨w.heap.size, 1, none⟩ (.slice none 0 0)).cell? ⟨w.heap.size, 1, none⟩ = some (.slice none 0 0) := (row2 g4).2
    clear g3 g4 hb
    go_wp2
    exact bodyPost_ret (v := .tuple #[.agg #[.slice none 0 0, .slice none 0 0], .bool false]) (by simp [results, Tryz.results35, go_sem, x0, x1]) rfl ⟨⟨fun _ => rfl, fun h => by rw [NO.out] at h; cases h⟩, kp_setN (kp_setN (K0.out.trans (J.out.trans (KV.out.trans kkwe))) (Nat.le_refl _) _) (Nat.le_refl _) _⟩
   have OKN := Hd (show okEs (m.take (k + 1)) = true by rw [OKN0, ok1])
   rw [ok1] at EG
   obtain ⟨oka, okb⟩ : startsB (famR ⟨sp, u, a, b⟩) = true ∧ endsB (famR ⟨sp, u, a, b⟩) = true := by
    unfold okE at ok1
    rwa [Bool.and_eq_true] at ok1
   clear OKN0 NO0 ok1
   rcases Bool.eq_false_or_eq_true (emptyF (famR ⟨sp, u, a, b⟩)) with em | em
   ·rw [em] at EM
    obtain ⟨r1, r2⟩ := raw_none em
    rw [r1, List.append_nil] at RIN
    rw [r2, List.append_nil] at RDN
    have NI := Hd RIN
    have ND := Hd RDN
    clear ok RIN RDN n4' n5' FSP FUN em r1 r2 oka okb
    generalize startsR (famR ⟨sp, u, a, b⟩) = sF at *
    generalize endsR (famR ⟨sp, u, a, b⟩) = eF at *
    obtain ⟨V, hVv⟩ : ∃ x, x = wr.alloc (.cells #[.bool sp, .int .i64 u, .slice aa a.length ca, .slice ab b.length cb] 44) := ⟨_, rfl⟩
    have kav : Kp wr V := by rw [hVv]; exact Kp.alloc _ _
    have gqv0 : V.heap[wr.heap.size]? = some (.cells #[.bool sp, .int .i64 u, .slice aa a.length ca, .slice ab b.length cb] 44 (0, 0)) := by rw [hVv]; exact heap_at _ _ _ (by first | rfl | simp)
    rw [← hVv] at kkVV
    have KSv := Hd (fun w' (kq : Kp V w') => show w'.cell? ⟨wr.heap.size, 0, none⟩ = some (.bool sp) ∧ w'.cell? ⟨wr.heap.size, 1, none⟩ = some (.int .i64 u) ∧ w'.cell? ⟨wr.heap.size, 2, none⟩ = some (.slice aa a.length ca) ∧ w'.cell? ⟨wr.heap.size, 3, none⟩ = some (.slice ab b.length cb) ∧ Kp V w' from ⟨(row4 (heap_block kq gqv0)).1, (row4 (heap_block kq gqv0)).2.1, (row4 (heap_block kq gqv0)).2.2.1, (row4 (heap_block kq gqv0)).2.2.2, kq⟩)
    have GQv0 := Hd gqv0
    have HVv := Hd hVv
    have KV := Hd kav
    clear hVv kav gqv0
    have kkV : Kp V V := Kp.refl _
    have OW4 := Hd (own_kp o4 KV.out)
    have OW5 := Hd (own_kp o5 KV.out)
    have KWV := Hd (J.out.trans KV.out)
    have bs := Below.size KWV.out
    clear o4 o5
    obtain ⟨xv0, xv1, xv2, xv3, _⟩ := KSv.out _ kkV
    go_upto_region 5 with fail
    rw [← HVv.out]
    clear HVv d0 d1 d2 d3
    go_wp2_with fail
    refine (EG.out _ (KV.out.trans (ky kkV))).mono ?_
    rintro e we ⟨v8, v9, rfl, o8, o9, kq1⟩
    have kkwe : Kp V we := Kp.trans (show Kp V _ from (ky kkV)) kq1
    obtain ⟨a8, l8, rfl⟩ := own_slice o8
    obtain ⟨a9, l9, rfl⟩ := own_slice o9
    have O8 := Hd o8
    have O9 := Hd o9
    clear o8 o9
    clear kq1
    clear xv0 xv1 xv2 xv3
    obtain ⟨xv0, xv1, xv2, xv3, _⟩ := KSv.out _ kkwe
    go_wp2_with fail
    refine (EM.out _ (KV.out.trans (ky kkwe))).mono ?_
    rintro e wf ⟨rfl, kq1⟩
    have kkwf : Kp V wf := Kp.trans (show Kp V _ from (ky kkwe)) kq1
    have kz : Kp we _ := Kp.trans (show Kp we _ from (ky (Kp.refl we))) kq1
    have O8 := Hd (own_kp O8.out kz)
    have O9 := Hd (own_kp O9.out kz)
    clear kz
    clear kq1
    clear xv0 xv1 xv2 xv3
    obtain ⟨xv0, xv1, xv2, xv3, _⟩ := KSv.out _ kkwf
    go_wp2
    go_roundw
    case rel => exact ⟨k + 1, by omega, by go_num, Hd (by rw [NI.out]; unfold OwnR; rw [HN4.out]; exact own_kp OW4.out (show Kp V _ from (ky kkwf))), Hd (by rw [ND.out]; unfold OwnR; rw [HN5.out]; exact own_kp OW5.out (show Kp V _ from (ky kkwf))), AP, OKN, Hd (KWV.out.trans (ky kkwf))⟩
    case measure => simp [intOf]; omega
   rw [em] at EM
   cases sp with
   | true =>
    obtain ⟨sF, eF, hF, s3⟩ := FSP em rfl
    rw [hF] at EG RIN RDN ls le n4' n5' ok oka okb
    obtain ⟨e1, e2, e3, e4, s1, s2, s4⟩ := raw_span s3 ok oka okb
    rw [e1, e2] at EG
    rw [e1] at ls
    rw [e2] at le
    rw [e3] at RIN n4'
    rw [e4, List.append_nil] at RDN
    have NI := Hd RIN
    have ND := Hd RDN
    simp only [List.length_cons, List.length_nil] at n4'
    clear ok RIN RDN n5' FSP FUN em oka okb e1 e2 e3 e4 hF
    obtain ⟨V, hVv⟩ : ∃ x, x = wr.alloc (.cells #[.bool true, .int .i64 u, .slice aa a.length ca, .slice ab b.length cb] 44) := ⟨_, rfl⟩
    have kav : Kp wr V := by rw [hVv]; exact Kp.alloc _ _
    have gqv0 : V.heap[wr.heap.size]? = some (.cells #[.bool true, .int .i64 u, .slice aa a.length ca, .slice ab b.length cb] 44 (0, 0)) := by rw [hVv]; exact heap_at _ _ _ (by first | rfl | simp)
    rw [← hVv] at kkVV
    have KSv := Hd (fun w' (kq : Kp V w') => show w'.cell? ⟨wr.heap.size, 0, none⟩ = some (.bool true) ∧ w'.cell? ⟨wr.heap.size, 1, none⟩ = some (.int .i64 u) ∧ w'.cell? ⟨wr.heap.size, 2, none⟩ = some (.slice aa a.length ca) ∧ w'.cell? ⟨wr.heap.size, 3, none⟩ = some (.slice ab b.length cb) ∧ Kp V w' from ⟨(row4 (heap_block kq gqv0)).1, (row4 (heap_block kq gqv0)).2.1, (row4 (heap_block kq gqv0)).2.2.1, (row4 (heap_block kq gqv0)).2.2.2, kq⟩)
    have GQv0 := Hd gqv0
    have HVv := Hd hVv
    have KV := Hd kav
    clear hVv kav gqv0
    have kkV : Kp V V := Kp.refl _
    have OW4 := Hd (own_kp o4 KV.out)
    have OW5 := Hd (own_kp o5 KV.out)
    have KWV := Hd (J.out.trans KV.out)
    have bs := Below.size KWV.out
    clear o4 o5
    obtain ⟨xv0, xv1, xv2, xv3, _⟩ := KSv.out _ kkV
    go_upto_region 5 with fail
    rw [← HVv.out]
    clear HVv d0 d1 d2 d3
    go_wp2_with fail
    refine (EG.out _ (KV.out.trans (ky kkV))).mono ?_
    rintro e we ⟨v8, v9, rfl, o8, o9, kq1⟩
    have kkwe : Kp V we := Kp.trans (show Kp V _ from (ky kkV)) kq1
    obtain ⟨a8, l8, rfl⟩ := own_slice o8
    obtain ⟨a9, l9, rfl⟩ := own_slice o9
    have O8 := Hd o8
    have O9 := Hd o9
    clear o8 o9
    clear kq1
    clear xv0 xv1 xv2 xv3
    obtain ⟨xv0, xv1, xv2, xv3, _⟩ := KSv.out _ kkwe
    go_wp2_with fail
    refine (EM.out _ (KV.out.trans (ky kkwe))).mono ?_
    rintro e wf ⟨rfl, kq1⟩
    have kkwf : Kp V wf := Kp.trans (show Kp V _ from (ky kkwe)) kq1
    have kz : Kp we _ := Kp.trans (show Kp we _ from (ky (Kp.refl we))) kq1
    have O8 := Hd (own_kp O8.out kz)
    have O9 := Hd (own_kp O9.out kz)
    clear kz
    clear kq1
    clear xv0 xv1 xv2 xv3
    obtain ⟨xv0, xv1, xv2, xv3, _⟩ := KSv.out _ kkwf
    have LE := Hd (fun w1 (kk : Kp wf w1) => nwLeast_any (.slice a8 sF.length l8) sF w1 (OwnR.runs (own_kp O8.out kk)) s1 s3 (by omega))
    have GR := Hd (fun w1 (kk : Kp wf w1) => nwGreat_any (.slice a9 eF.length l9) eF w1 (OwnR.runs (own_kp O9.out kk)) s2 s4 (by omega))
    generalize leastR sF = lo at *
    generalize greatR eF = hi' at *
    go_wp2_with fail
    refine (LE.out _ (ky (Kp.refl wf))).mono ?_
    rintro e wg ⟨rfl, kq1⟩
    have kkwg : Kp V wg := Kp.trans (show Kp V _ from (ky kkwf)) kq1
    have kzg : Kp wf wg := Kp.trans (show Kp wf _ from (ky (Kp.refl wf))) kq1
    clear kq1
    clear xv0 xv1 xv2 xv3
    obtain ⟨xv0, xv1, xv2, xv3, _⟩ := KSv.out _ kkwg
    go_wp2_with fail
    refine (GR.out _ (kzg.trans (ky (Kp.refl wg)))).mono ?_
    rintro e wh ⟨rfl, kq1⟩
    have kkwh : Kp V wh := Kp.trans (show Kp V _ from (ky kkwg)) kq1
    clear kq1
    clear xv0 xv1 xv2 xv3
    obtain ⟨xv0, xv1, xv2, xv3, _⟩ := KSv.out _ kkwh
    go_wp2_with (at_builtin; refine wpList_app rfl (.tmp 38) (.tmp 44) 34 rfl W0.heap.size 42 i0 (.agg #[.int .i64 0, .int .i64 0]) 2 16 Tryz.underlying34 hi hz0 hz1 hz2 rfl (by decide) _ x4 (cellsR X) rfl (own_kp OW4.out (show Kp V _ from (ky kkwh))) _ 1 ([.int .i64 lo, .int .i64 hi']) rfl (one_src _ _ _ _) (by simp) (by intro u hu; simp at hu; rcases hu with rfl | rfl <;> rfl) (by unfold maxLen; omega) (by omega) (Nat.le_trans bs (Below.size (show Kp V _ from (ky kkwh)))) ?_; intro v7 w7 hown hgrow hat; have G7 := Hd (Kp.grown (show Kp W0 _ from KWV.out.trans (ky kkwh)) hgrow (fun j hj => (OW4.out.lt j hj).1)); have P7 := Hd hown; have P8 := Hd (own_apart (own_kp OW5.out (show Kp V _ from (ky kkwh))) hgrow AP.out); have AQ := Hd (apart_step AP.out (own_kp OW5.out (show Kp V _ from (ky kkwh))) hat); clear hown hgrow hat)
    go_roundw
    case rel => exact ⟨k + 1, by omega, by go_num, Hd (by rw [NI.out]; have h := P7.out; rw [← HN4.out] at h; exact own_snoc h), Hd (by rw [ND.out]; unfold OwnR; rw [HN5.out]; exact P8.out), AQ, OKN, G7⟩
    case measure => simp [intOf]; omega
   | false =>
    obtain ⟨s, hF, s3⟩ := FUN em rfl
    rw [hF] at EG RIN RDN ls le n4' n5' ok oka okb
    by_cases hu : u = 0
    ·subst hu
     obtain ⟨e1, e2, e3⟩ := raw_day ok oka
     rw [e1] at EG ls
     rw [e2, List.append_nil] at RIN
     rw [e3] at RDN n5'
     have NI := Hd RIN
     have ND := Hd RDN
     have u0 : ((0 : Int) == 0) = true := rfl
     clear ok RIN RDN n4' FSP FUN em oka okb e1 e2 e3 hF s3
     generalize endsR (.units 0 s) = eF at *
     obtain ⟨sF, hsF⟩ : ∃ x, x = s := ⟨_, rfl⟩
     subst hsF
     obtain ⟨V, hVv⟩ : ∃ x, x = wr.alloc (.cells #[.bool false, .int .i64 0, .slice aa a.length ca, .slice ab b.length cb] 44) := ⟨_, rfl⟩
     have kav : Kp wr V := by rw [hVv]; exact Kp.alloc _ _
     have gqv0 : V.heap[wr.heap.size]? = some (.cells #[.bool false, .int .i64 0, .slice aa a.length ca, .slice ab b.length cb] 44 (0, 0)) := by rw [hVv]; exact heap_at _ _ _ (by first | rfl | simp)
     rw [← hVv] at kkVV
     have KSv := Hd (fun w' (kq : Kp V w') => show w'.cell? ⟨wr.heap.size, 0, none⟩ = some (.bool false) ∧ w'.cell? ⟨wr.heap.size, 1, none⟩ = some (.int .i64 0) ∧ w'.cell? ⟨wr.heap.size, 2, none⟩ = some (.slice aa a.length ca) ∧ w'.cell? ⟨wr.heap.size, 3, none⟩ = some (.slice ab b.length cb) ∧ Kp V w' from ⟨(row4 (heap_block kq gqv0)).1, (row4 (heap_block kq gqv0)).2.1, (row4 (heap_block kq gqv0)).2.2.1, (row4 (heap_block kq gqv0)).2.2.2, kq⟩)
     have GQv0 := Hd gqv0
     have HVv := Hd hVv
     have KV := Hd kav
     clear hVv kav gqv0
     have kkV : Kp V V := Kp.refl _
     have OW4 := Hd (own_kp o4 KV.out)
     have OW5 := Hd (own_kp o5 KV.out)
     have KWV := Hd (J.out.trans KV.out)
     have bs := Below.size KWV.out
     clear o4 o5
     obtain ⟨xv0, xv1, xv2, xv3, _⟩ := KSv.out _ kkV
     go_upto_region 5 with fail
     rw [← HVv.out]
     clear HVv d0 d1 d2 d3
     go_wp2_with fail
     refine (EG.out _ (KV.out.trans (ky kkV))).mono ?_
     rintro e we ⟨v8, v9, rfl, o8, o9, kq1⟩
     have kkwe : Kp V we := Kp.trans (show Kp V _ from (ky kkV)) kq1
     obtain ⟨a8, l8, rfl⟩ := own_slice o8
     obtain ⟨a9, l9, rfl⟩ := own_slice o9
     have O8 := Hd o8
     have O9 := Hd o9
     clear o8 o9
     clear kq1
     clear xv0 xv1 xv2 xv3
     obtain ⟨xv0, xv1, xv2, xv3, _⟩ := KSv.out _ kkwe
     go_wp2_with fail
     refine (EM.out _ (KV.out.trans (ky kkwe))).mono ?_
     rintro e wf ⟨rfl, kq1⟩
     have kkwf : Kp V wf := Kp.trans (show Kp V _ from (ky kkwe)) kq1
     have kz : Kp we _ := Kp.trans (show Kp we _ from (ky (Kp.refl we))) kq1
     have O8 := Hd (own_kp O8.out kz)
     have O9 := Hd (own_kp O9.out kz)
     clear kz
     clear kq1
     clear xv0 xv1 xv2 xv3
     obtain ⟨xv0, xv1, xv2, xv3, _⟩ := KSv.out _ kkwf
     go_wp2_with (at_builtin; refine wpList_app rfl (.tmp 50) (.tmp 51) 34 rfl W0.heap.size 42 i0 (.agg #[.int .i64 0, .int .i64 0]) 2 16 Tryz.underlying34 hi hz0 hz1 hz2 rfl (by decide) _ x5 (cellsR D) rfl (own_kp OW5.out (show Kp V _ from (ky kkwf))) _ sF.length (cellsR sF) rfl (((OwnR.runs O8.out).kp (ky (Kp.refl wf))).src) (cellsR_length _) (cells_one _) (by unfold maxLen; omega) (by omega) (Nat.le_trans bs (Below.size (show Kp V _ from (ky kkwf)))) ?_; intro v7 w7 hown hgrow hat; have G7 := Hd (Kp.grown (show Kp W0 _ from KWV.out.trans (ky kkwf)) hgrow (fun j hj => (OW5.out.lt j hj).1)); have P7 := Hd hown; have P8 := Hd (own_apart (own_kp OW4.out (show Kp V _ from (ky kkwf))) hgrow AP.out.symm); have AQ := Hd (apart_step AP.out.symm (own_kp OW4.out (show Kp V _ from (ky kkwf))) hat); clear hown hgrow hat)
     go_roundw
     case rel => exact ⟨k + 1, by omega, by go_num, Hd (by rw [NI.out]; unfold OwnR; rw [HN4.out]; exact P8.out), Hd (by rw [ND.out]; have h := P7.out; rw [← HN5.out] at h; exact own_len h), Hd AQ.out.symm, OKN, G7⟩
     case measure => simp [intOf]; omega
    ·obtain ⟨e1, e2, s1⟩ := raw_unit ok hu oka
     rw [e1] at RIN n4'
     rw [e2, List.append_nil] at RDN
     have NI := Hd RIN
     have ND := Hd RDN
     have u0 : (u == 0) = false := beq_eq_false_iff_ne.2 hu
     clear ok RIN RDN n5' FSP FUN em oka okb e1 e2 hF s3
     generalize startsR (.units u s) = sF at *
     generalize endsR (.units u s) = eF at *
     rw [tog_len] at n4'
     obtain ⟨V, hVv⟩ : ∃ x, x = wr.alloc (.cells #[.bool false, .int .i64 u, .slice aa a.length ca, .slice ab b.length cb] 44) := ⟨_, rfl⟩
     have kav : Kp wr V := by rw [hVv]; exact Kp.alloc _ _
     have gqv0 : V.heap[wr.heap.size]? = some (.cells #[.bool false, .int .i64 u, .slice aa a.length ca, .slice ab b.length cb] 44 (0, 0)) := by rw [hVv]; exact heap_at _ _ _ (by first | rfl | simp)
     rw [← hVv] at kkVV
     have KSv := Hd (fun w' (kq : Kp V w') => show w'.cell? ⟨wr.heap.size, 0, none⟩ = some (.bool false) ∧ w'.cell? ⟨wr.heap.size, 1, none⟩ = some (.int .i64 u) ∧ w'.cell? ⟨wr.heap.size, 2, none⟩ = some (.slice aa a.length ca) ∧ w'.cell? ⟨wr.heap.size, 3, none⟩ = some (.slice ab b.length cb) ∧ Kp V w' from ⟨(row4 (heap_block kq gqv0)).1, (row4 (heap_block kq gqv0)).2.1, (row4 (heap_block kq gqv0)).2.2.1, (row4 (heap_block kq gqv0)).2.2.2, kq⟩)
     have GQv0 := Hd gqv0
     have HVv := Hd hVv
     have KV := Hd kav
     clear hVv kav gqv0
     have kkV : Kp V V := Kp.refl _
     have OW4 := Hd (own_kp o4 KV.out)
     have OW5 := Hd (own_kp o5 KV.out)
     have KWV := Hd (J.out.trans KV.out)
     have bs := Below.size KWV.out
     clear o4 o5
     obtain ⟨xv0, xv1, xv2, xv3, _⟩ := KSv.out _ kkV
     go_upto_region 5 with fail
     rw [← HVv.out]
     clear HVv d0 d1 d2 d3
     go_wp2_with fail
     refine (EG.out _ (KV.out.trans (ky kkV))).mono ?_
     rintro e we ⟨v8, v9, rfl, o8, o9, kq1⟩
     have kkwe : Kp V we := Kp.trans (show Kp V _ from (ky kkV)) kq1
     obtain ⟨a8, l8, rfl⟩ := own_slice o8
     obtain ⟨a9, l9, rfl⟩ := own_slice o9
     have O8 := Hd o8
     have O9 := Hd o9
     clear o8 o9
     clear kq1
     clear xv0 xv1 xv2 xv3
     obtain ⟨xv0, xv1, xv2, xv3, _⟩ := KSv.out _ kkwe
     go_wp2_with fail
     refine (EM.out _ (KV.out.trans (ky kkwe))).mono ?_
     rintro e wf ⟨rfl, kq1⟩
     have kkwf : Kp V wf := Kp.trans (show Kp V _ from (ky kkwe)) kq1
     have kz : Kp we _ := Kp.trans (show Kp we _ from (ky (Kp.refl we))) kq1
     have O8 := Hd (own_kp O8.out kz)
     have O9 := Hd (own_kp O9.out kz)
     clear kz
     clear kq1
     clear xv0 xv1 xv2 xv3
     obtain ⟨xv0, xv1, xv2, xv3, _⟩ := KSv.out _ kkwf
     have TG := Hd (fun w1 (kk : Kp wf w1) => nwTogether_any (.slice a8 sF.length l8) (.slice a9 eF.length l9) sF eF w1 (OwnR.runs (own_kp O8.out kk)) (OwnR.runs (own_kp O9.out kk)) (by omega) s1)
     have lT := tog_len sF eF sF.length
     have lT2 : (togN sF eF sF.length).length ≤ 400 := by omega
     clear lT
     generalize togN sF eF sF.length = Tg at *
     go_wp2_with fail
     refine (TG.out _ (ky (Kp.refl wf))).mono ?_
     rintro e wh ⟨vt, rfl, ot, kq1⟩
     have kkwh : Kp V wh := Kp.trans (show Kp V _ from (ky kkwf)) kq1
     obtain ⟨at1, lt1, rfl⟩ := own_slice ot
     have OT := Hd ot
     clear ot
     clear kq1
     clear xv0 xv1 xv2 xv3
     obtain ⟨xv0, xv1, xv2, xv3, _⟩ := KSv.out _ kkwh
     go_wp2_with (at_builtin; refine wpList_app rfl (.tmp 23) (.tmp 26) 34 rfl W0.heap.size 42 i0 (.agg #[.int .i64 0, .int .i64 0]) 2 16 Tryz.underlying34 hi hz0 hz1 hz2 rfl (by decide) _ x4 (cellsR X) rfl (own_kp OW4.out (show Kp V _ from (ky kkwh))) _ Tg.length (cellsR Tg) rfl (((OwnR.runs OT.out).kp (ky (Kp.refl wh))).src) (cellsR_length _) (cells_one _) (by unfold maxLen; omega) (by omega) (Nat.le_trans bs (Below.size (show Kp V _ from (ky kkwh)))) ?_; intro v7 w7 hown hgrow hat; have G7 := Hd (Kp.grown (show Kp W0 _ from KWV.out.trans (ky kkwh)) hgrow (fun j hj => (OW4.out.lt j hj).1)); have P7 := Hd hown; have P8 := Hd (own_apart (own_kp OW5.out (show Kp V _ from (ky kkwh))) hgrow AP.out); have AQ := Hd (apart_step AP.out (own_kp OW5.out (show Kp V _ from (ky kkwh))) hat); clear hown hgrow hat)
     go_roundw
     case rel => exact ⟨k + 1, by omega, by go_num, Hd (by rw [NI.out]; have h := P7.out; rw [← HN4.out] at h; exact own_len h), Hd (by rw [ND.out]; unfold OwnR; rw [HN5.out]; exact P8.out), AQ, OKN, G7⟩
     case measure => simp [intOf]; omega
  ·have q2 : decide ((k : Int) < (m.length : Int)) = false := dF
   have q3 : decide (k < m.length) = false := dF
   obtain rfl : k = m.length := by omega
   have nI := NRI.out m.length
   have nD := NRD.out m.length
   rw [List.take_length] at O4 O5 AP OKP nI nD o4 o5 ⊢
   rw [show m.flatMap (fun f => itvF (famR f)) = rawI m from rfl] at nI
   rw [show m.flatMap (fun f => dayF (famR f)) = rawD m from rfl] at nD
   have LG := Hd (nwLong_any _ (rawI m) wr O4.out nI)
   have DS := Hd (fun K L' h g => diff_same (m := m) (K := K) (L' := L') h g)
   have ii := Hd (rawI_i64 m)
   have di := Hd (rawD_i64 m)
   obtain ⟨x4, hn4⟩ : ∃ x, (rawI m).length = x := ⟨_, rfl⟩
   obtain ⟨x5, hn5⟩ : ∃ x, (rawD m).length = x := ⟨_, rfl⟩
   rw [hn4] at LG AP nI o4 ⊢
   rw [hn5] at AP nD o5 ⊢
   have HN4 := Hd hn4
   have HN5 := Hd hn5
   have NO := Hd (fun (h : okEs m = false) => show False from (by have o := OKP.out; rw [h] at o; exact Bool.noConfusion o))
   clear NRI NRD HV HL TT O4 O5 hn4 hn5
   go_wp2_with fail
   refine (LG.out).mono ?_
   rintro e w1 ⟨vK, L', K, rfl, p1, p2, oL, kK, oK, gr⟩
   obtain ⟨aK, lK, rfl⟩ := own_slice oK
   have P5 := own_apart o5 gr AP.out
   have K1 := Hd (J.out.grown gr (fun j hj => (o4.lt j hj).1))
   have RL := Hd (runsAt_own oL)
   have RD := Hd (show RunsAt w1 (.slice a5 x5 l5) (rawD m) from runsAt_own (by rw [HN5.out]; exact P5))
   have RK := Hd oK
   have KK := Hd kK
   have i' : I64R L' := fun r hr => ii.out r ((p1 r).1 hr)
   have DE := Hd (DS.out K L' kK p1)
   have MK := Hd (fun w' (kq : Kp w1 w') => make_any (.slice a4 x4 l4) L' w' (RL.out.kp kq) i' (by rw [p2]; exact nI))
   have MI := Hd (fun u w' (kq : Kp w1 w') (h : RunsAt w' u (nf L')) => minus_any (.slice a5 x5 l5) u (rawD m) (nf L') w' (RD.out.kp kq) h di.out (sane_i64 (nf_sane _)) (by rw [HN5.out]; exact nD) (Nat.le_trans (nf_len _) (by rw [p2]; exact nI)))
   rw [DE.out] at MI
   obtain ⟨DD, hDD⟩ : ∃ x, diffR (rawD m) (nf K) = x := ⟨_, rfl⟩
   rw [hDD] at MI
   have HDD := Hd hDD
   clear hDD
   generalize nf L' = NL at *
   clear LG oL oK kK p1 p2 gr i' P5 o4 o5 AP
   go_wp2_with fail
   refine (MK.out _ (Kp.refl _)).mono ?_
   rintro e w2 ⟨v2, rfl, o2, k2⟩
   obtain ⟨a2, l2, rfl⟩ := own_slice o2
   have O2 := Hd (runsAt_own o2)
   have K2 := Hd k2
   clear o2 k2
   go_wp2_with fail
   refine (MI.out _ _ K2.out O2.out).mono ?_
   rintro e w3 ⟨v3, rfl, o3, k3⟩
   obtain ⟨a3, l3, rfl⟩ := own_slice o3
   have O3 := Hd o3
   have K3 := Hd (K2.out.trans k3)
   have lb1 : w.heap.size < wr.heap.size := Nat.lt_of_lt_of_le hB (Below.size J.out)
   have lb2 : w.heap.size < w2.heap.size := Nat.lt_of_lt_of_le hB (Below.size (K1.out.trans K2.out))
   clear o3 k3
   have hb := HB.out _ (K1.out.trans K3.out)
   have f0 : w3.frozen? ⟨w.heap.size, 0, none⟩ = false := by simp [World.frozen?, hb]
   have f1 : w3.frozen? ⟨w.heap.size, 1, none⟩ = false := by simp [World.frozen?, hb]
   have e0 : w3.cell? ⟨w.heap.size, 0, none⟩ = some (.slice none 0 0) := (row2 hb).1
   have e1 : w3.cell? ⟨w.heap.size, 1, none⟩ = some (.slice none 0 0) := (row2 hb).2
   have g3 := bx_heap1 hb 0 (.slice aK K.length lK)
   have g4 := bx_heap1 g3 1 (.slice a3 DD.length l3)
   have x0 : ((w3.setCell ⟨w.heap.size, 0, none⟩ (.slice aK K.length lK)).setCell ⟨w.heap.size, 1, none⟩ (.slice a3 DD.length l3)).cell? ⟨w.heap.size, 0, none⟩ = some (.slice aK K.length lK) := (row2 g4).1
   have x1 : ((w3.setCell ⟨w.heap.size, 0, none⟩ (.slice aK K.length lK)).setCell ⟨w.heap.size, 1, none⟩ (.slice a3 DD.length l3)).cell? ⟨w.heap.size, 1, none⟩ = some (.slice a3 DD.length l3) := (row2 g4).2
   clear g3 g4 hb
   have FIN := Hd (show RunsAt ((w3.setCell ⟨w.heap.size, 0, none⟩ (.slice aK K.length lK)).setCell ⟨w.heap.size, 1, none⟩ (.slice a3 DD.length l3)) (.slice aK K.length lK) K ∧ RunsAt ((w3.setCell ⟨w.heap.size, 0, none⟩ (.slice aK K.length lK)).setCell ⟨w.heap.size, 1, none⟩ (.slice a3 DD.length l3)) (.slice a3 DD.length l3) DD ∧ Kp w ((w3.setCell ⟨w.heap.size, 0, none⟩ (.slice aK K.length lK)).setCell ⟨w.heap.size, 1, none⟩ (.slice a3 DD.length l3)) from
    ⟨runsAt_own (own_setB (own_setB (own_kp RK.out K3.out) lb1 0 _) lb1 1 _), runsAt_own (own_setB (own_setB O3.out lb2 0 _) lb2 1 _), kp_setN (kp_setN (K0.out.trans (K1.out.trans K3.out)) (Nat.le_refl _) _) (Nat.le_refl _) _⟩)
   go_wp2
   exact bodyPost_ret (v := .tuple #[.agg #[.slice aK K.length lK, .slice a3 DD.length l3], .bool true]) (by simp [results, Tryz.results35, go_sem, x0, x1]) rfl ⟨⟨fun h => absurd h (fun h => NO.out h), fun _ => ⟨_, _, K, rfl, FIN.out.1, KK.out, by rw [HDD.out]; exact FIN.out.2.1⟩⟩, FIN.out.2.2⟩
end Go.Proofs.YtcooaoponkkpeaaGreatDoor
