import Derived.Test.YtcooaoponkkpeaaGreatDoorJNf
import Derived.LoopTactic
set_option maxHeartbeats 16000000
set_option maxRecDepth 100000
namespace Go.Proofs.YtcooaoponkkpeaaGreatDoor
open Go.RowKit
set_option linter.unusedVariables false
set_option linter.unusedSimpArgs false
theorem fewU_of {f : LF} (h : uniF f ≤ 60) : FewU f := by
 intro hs hu
 have z : lf0.u = 0 := rfl
 rcases Bool.eq_false_or_eq_true (leafB f) with hf | hf
 ·rcases Bool.eq_false_or_eq_true f.sp with hp | hp
  ·by_cases h0 : f.a.length = 0 ∨ f.b.length = 0
   ·rw [famR_none hf hp h0, lfOf_s0 rfl] at hu
    exact absurd z hu
   ·rw [famR_span hf hp h0] at hs hu
    by_cases h1 : (interR f.a [(0, greatR f.b)]).length = 0
    ·rw [lfOf_s0 h1] at hu
     exact absurd z hu
    ·rw [lfOf_s1 h1] at hs
     cases hs
  ·rw [famR_units hf hp] at hs hu ⊢
   by_cases h1 : f.a.length = 0
   ·rw [lfOf_u0 h1] at hu
    exact absurd z hu
   ·rw [lfOf_u1 h1] at hu ⊢
    simp only at hu ⊢
    have sa := (leafB_units hf hp).2.1
    unfold uniF at h
    rw [if_pos ⟨hp, hu⟩, nf_of_sane (setB_sane sa), sum_nums f.a (fun r hr => (sane_ok (setB_sane sa) r hr).1)] at h
    omega
 ·rw [famR_no hf, lfOf_u0 rfl] at hu
  exact absurd z hu
theorem uni_le : ∀ {l : List LF}, LsOk l → 0 ≤ unitsN l ∧ ∀ f ∈ l, uniF f ≤ unitsN l
 | [], _ => ⟨by simp [unitsN], fun f hf => by cases hf⟩
 | g :: t, h => by
  have h1 := (uniF_bd g (by have := (h g List.mem_cons_self).2.2.1; omega)).1
  have h2 := uni_le (l := t) (fun f hf => h f (List.mem_cons_of_mem _ hf))
  refine ⟨by unfold unitsN; omega, fun f hf => ?_⟩
  rcases List.mem_cons.1 hf with rfl | hf
  ·unfold unitsN; omega
  ·have := h2.2 f hf
   unfold unitsN; omega
theorem one_len {f : LF} {m : List LF} (h : ∀ g ∈ m, FewU g) (nm : m.length ≤ 6) : (oneL f m).length ≤ 360 := by
 unfold oneL oneT dysL usL
 have := flat_bd m (witL (lfOf (famR f)).a (lfOf (famR f)).b) 60 (fun g hg => wit_len (h g hg))
 repeat' split
 all_goals first | omega | (simp; done)
noncomputable def rfN (l m : List LF) (k : Nat) : List LF := refL (l.take k) m
theorem rf_next {l m : List LF} {k : Nat} (h : k < l.length) : rfN l m (k + 1) = rfN l m k ++ oneL (lat l k) m := flat_next l _ (fun f => oneL f m) k h
theorem rf_all (l m : List LF) : rfN l m l.length = refL l m := by unfold rfN; rw [List.take_length]
theorem rf_len {l m : List LF} (h : ∀ g ∈ m, FewU g) (nm : m.length ≤ 6) (nl : l.length ≤ 6) (k : Nat) : (rfN l m k).length ≤ 2160 := by
 have h1 := flat_bd (l.take k) (fun f => oneL f m) 360 (fun x _ => one_len h nm)
 have h2 : (l.take k).length ≤ l.length := List.length_take_le' _ _
 unfold rfN refL
 omega
theorem rf_sts (L : List LF) : (stsL L).length ≤ L.length * 400 ∧ (ensL L).length ≤ L.length * 400 :=
 ⟨flat_bd L (fun f => startsR (famR f)) 400 (fun x _ => starts_len _), flat_bd L (fun f => endsR (famR f)) 400 (fun x _ => ends_len _)⟩
theorem narS_8 {l m L : List LF} (h : (okEs l && okEs m) = false) : narE l m L = 8 ∧ narL l m L = [] := by
 have e : narE l m L = 8 := by unfold narE; rw [if_pos h]
 exact ⟨e, by unfold narL; rw [e]; rfl⟩
theorem narS_9 {l m L : List LF} (h : (okEs l && okEs m) = true) (h0 : L.length = 0) : narE l m L = 9 ∧ narL l m L = [] := by
 have e : narE l m L = 9 := by unfold narE; rw [if_neg (by rw [h]; simp), if_pos h0]
 exact ⟨e, by unfold narL; rw [e]; rfl⟩
theorem narS_w {l m L : List LF} (h : (okEs l && okEs m) = true) (h0 : ¬ L.length = 0) (hw : 400 < (nf (stsL L)).length ∨ 400 < (nf (ensL L)).length) : narE l m L = 8 ∧ narL l m L = [] := by
 have w : wideB L = true := by
  unfold wideB
  rw [Bool.or_eq_true, decide_eq_true_eq, decide_eq_true_eq]
  exact hw
 have e : narE l m L = 8 := by unfold narE; rw [if_neg (by rw [h]; simp), if_neg h0, if_pos w]
 exact ⟨e, by unfold narL; rw [e]; rfl⟩
theorem narS_0 {l m L : List LF} (h : (okEs l && okEs m) = true) (h0 : ¬ L.length = 0) (h1 : ¬ 400 < (nf (stsL L)).length) (h2 : ¬ 400 < (nf (ensL L)).length) : narE l m L = 0 ∧ narL l m L = L := by
 have w : ¬ wideB L = true := by
  unfold wideB
  rw [Bool.or_eq_true, decide_eq_true_eq, decide_eq_true_eq]
  omega
 have e : narE l m L = 0 := by unfold narE; rw [if_neg (by rw [h]; simp), if_neg h0, if_neg w]
 exact ⟨e, by unfold narL; rw [e]; rfl⟩
theorem rnar_a (vl vm : Value) (l m : List LF) (w : World) (hv : LeavesAt w vl l) (hu : LeavesAt w vm m) (hl : LsOk l) (hm : LsOk m) (h1 : okEs l = false) :
  Calls Tryz.prog 16 #[vl, vm] w fun e w' => ∃ v L n, e = .returned (.tuple #[v, .int .i64 n]) ∧ LeavesAt w' v L ∧ n = narE l m (refL l m) ∧ L = narL l m (refL l m) ∧ Kp w w' := by
 have CA := Hd (fun w1 (kk : Kp w w1) => rWide20_any vl l w1 (hv.kp kk) hl)
 have CB := Hd (fun w1 (kk : Kp w w1) => rWide20_any vm m w1 (hu.kp kk) hm)
 have hml := hv.len
 unfold maxLen at hml
 obtain ⟨ad, cp, rfl⟩ := hv.slice
 obtain ⟨ae, cq, rfl⟩ := hu.slice
 rw [h1] at CA
 have E8 := Hd (narS_8 (l := l) (m := m) (L := refL l m) (by rw [h1]; rfl))
 generalize narE l m (refL l m) = NE at *
 generalize narL l m (refL l m) = NL at *
 clear hv hu hl hm h1 CB
 go_enter Tryz.func16, Tryz.ntmps16
 go_wp2_with fail
 refine (CA.out _ (Kp.refl _)).mono ?_
 rintro e w1 ⟨rfl, kk⟩
 have K1 := Hd kk
 clear kk
 go_wp2
 go_ret2
 exact ⟨_, [], _, rfl, .inl ⟨_, _, rfl, rfl⟩, E8.out.1.symm, E8.out.2.symm, K1.out⟩
theorem rnar_b (vl vm : Value) (l m : List LF) (w : World) (hv : LeavesAt w vl l) (hu : LeavesAt w vm m) (hl : LsOk l) (hm : LsOk m) (h1 : okEs l = true) (h2 : okEs m = false) :
  Calls Tryz.prog 16 #[vl, vm] w fun e w' => ∃ v L n, e = .returned (.tuple #[v, .int .i64 n]) ∧ LeavesAt w' v L ∧ n = narE l m (refL l m) ∧ L = narL l m (refL l m) ∧ Kp w w' := by
 have CA := Hd (fun w1 (kk : Kp w w1) => rWide20_any vl l w1 (hv.kp kk) hl)
 have CB := Hd (fun w1 (kk : Kp w w1) => rWide20_any vm m w1 (hu.kp kk) hm)
 have hml := hv.len
 unfold maxLen at hml
 obtain ⟨ad, cp, rfl⟩ := hv.slice
 obtain ⟨ae, cq, rfl⟩ := hu.slice
 rw [h1] at CA
 rw [h2] at CB
 have E8 := Hd (narS_8 (l := l) (m := m) (L := refL l m) (by rw [h1, h2]; rfl))
 generalize narE l m (refL l m) = NE at *
 generalize narL l m (refL l m) = NL at *
 clear hv hu hl hm h1 h2
 go_enter Tryz.func16, Tryz.ntmps16
 go_wp2_with fail
 refine (CA.out _ (Kp.refl _)).mono ?_
 rintro e w1 ⟨rfl, kk⟩
 have K1 := Hd kk
 clear kk
 go_wp2_with fail
 refine (CB.out _ K1.out).mono ?_
 rintro e w2 ⟨rfl, kk⟩
 have K2 := Hd (K1.out.trans kk)
 clear kk
 go_wp2
 go_ret2
 exact ⟨_, [], _, rfl, .inl ⟨_, _, rfl, rfl⟩, E8.out.1.symm, E8.out.2.symm, K2.out⟩
theorem rnar_c (vl vm : Value) (l m : List LF) (w : World) (hv : LeavesAt w vl l) (hu : LeavesAt w vm m) (hl : LsOk l) (hm : LsOk m) (ql : ∀ f ∈ l, f.a.length ≤ 40 ∧ f.b.length ≤ 40) (qm : ∀ g ∈ m, g.a.length ≤ 40 ∧ g.b.length ≤ 40) (nl : l.length ≤ 6) (nm : m.length ≤ 6) (fl : ∀ f ∈ l, FewU f) (fm : ∀ f ∈ m, FewU f) (h1 : okEs l = true) (h2 : okEs m = true) :
  Calls Tryz.prog 16 #[vl, vm] w fun e w' => ∃ v L n, e = .returned (.tuple #[v, .int .i64 n]) ∧ LeavesAt w' v L ∧ n = narE l m (refL l m) ∧ L = narL l m (refL l m) ∧ Kp w w' := by
 have CA := Hd (fun w1 (kk : Kp w w1) => rWide20_any vl l w1 (hv.kp kk) hl)
 have CB := Hd (fun w1 (kk : Kp w w1) => rWide20_any vm m w1 (hu.kp kk) hm)
 have hml := hv.len
 unfold maxLen at hml
 obtain ⟨ad, cp, rfl⟩ := hv.slice
 obtain ⟨ae, cq, rfl⟩ := hu.slice
 rw [h1] at CA
 rw [h2] at CB
 have hok : (okEs l && okEs m) = true := by rw [h1, h2]; rfl
 obtain ⟨i0, hi, hz0, hz1, hz2⟩ := info_parts infoLeaf
 have E9 := Hd (fun (h : (rfN l m l.length).length = 0) => narS_9 (l := l) (m := m) (L := rfN l m l.length) hok h)
 have EW := Hd (fun (h : ¬ (rfN l m l.length).length = 0) hw => narS_w (l := l) (m := m) (L := rfN l m l.length) hok h hw)
 have EZ := Hd (fun (h : ¬ (rfN l m l.length).length = 0) g1 g2 => narS_0 (l := l) (m := m) (L := rfN l m l.length) hok h g1 g2)
 have GD := Hd (fun g (hg : g ∈ rfN l m l.length) => refL_good ql qm nm h1 (g := g) (by rw [← rf_all]; exact hg))
 rw [rf_all] at *
 have PN := Hd (fun k (h : k < l.length) => rf_next (m := m) h)
 have PB := Hd (rf_len (l := l) fm nm nl)
 have PO := Hd (fun f => one_len (f := f) fm nm)
 have P0 := Hd (show rfN l m 0 = [] from rfl)
 have PA := Hd (rf_all l m)
 have CO := Hd (fun (f : LF) (hf : f ∈ l) va vb w2 (kk : Kp w w2) (lk : LeafOk w2 f va vb) => rone_any f va vb _ m w2 lk (hu.kp kk) hm (by omega) fm (fl f hf) (fun g hg => Nat.le_trans (posR_one g (qm g hg).1 (qm g hg).2) (by decide)) (fun k => Nat.le_trans (preN_len qm k) (by omega)))
 have HV := Hd hv
 have HL := Hd hl
 generalize narE l m (refL l m) = NE at *
 generalize narL l m (refL l m) = NL at *
 generalize rfN l m = PX at *
 generalize refL l m = X at *
 clear hv hu hl hm h1 h2 hok ql qm fl fm
 go_enter Tryz.func16, Tryz.ntmps16
 go_wp2_with fail
 refine (CA.out _ (Kp.refl _)).mono ?_
 rintro e w1 ⟨rfl, kk⟩
 have K1 := Hd kk
 clear kk
 go_wp2_with fail
 refine (CB.out _ K1.out).mono ?_
 rintro e w2 ⟨rfl, kk⟩
 have K2 := Hd (K1.out.trans kk)
 clear kk
 go_wp2
 go_loopw [6, 7] (fun v i wr => ∃ (k : Nat) (x : List (LF × VV)), k ≤ l.length ∧ i = .int .i64 k ∧ Hid (x.map Prod.fst = PX k) ∧ Hid (OwnV wr w2.heap.size x) ∧ Hid (wr.ownsRow w2.heap.size 44 4 v (PX k).length (cellsV x)) ∧ Hid (Kp w2 wr)) (fun _ i _ => l.length - (intOf i).toNat)
 case atStart => exact ⟨0, [], Nat.zero_le _, rfl, Hd (by rw [P0.out]; rfl), Hd (fun p hp => by cases hp), Hd (by rw [P0.out]; exact World.ownsRow_nil _ _ _ _), Hd (Kp.refl _)⟩
 case round =>
  obtain ⟨k, x, hk, rfl, HM, OV, OW, J0⟩ := hrel
  have J := Hd (K2.out.trans J0.out)
  have ow := OW.out
  obtain ⟨a5, l5, rfl⟩ := own_slice4 ow
  clear ow
  have xl : x.length = (PX k).length := by have := congrArg List.length HM.out; rwa [List.length_map] at this
  by_cases hlt : k < l.length
  ·have q1 : decide ((k : Int) < (l.length : Int)) = true := dT
   have pn := PN.out k hlt
   have pb := PB.out k
   have fm := lat_mem hlt
   rcases HV.out.kp J.out with ⟨_, _, _, e⟩ | ⟨b0, off, cap, ev, hc, hmx, hx⟩
   ·rw [e] at hlt; simp at hlt
   cases ev
   obtain ⟨va, vb, d0, d1, d2, d3, ra, rb⟩ := hx k hlt
   have LOK := HL.out _ (lat_mem hlt)
   obtain ⟨f, hf⟩ : ∃ f, lat l k = f := ⟨_, rfl⟩
   rw [hf] at d0 d1 ra rb
   (try rw [hf] at LOK)
   obtain ⟨sp, u, a, b⟩ := f
   simp only at d0 d1 ra rb
   (try simp only at LOK)
   obtain ⟨aa, ca, rfl⟩ := ra.slice
   obtain ⟨ab, cb, rfl⟩ := rb.slice
   have HF := Hd hf
   have z1 : (k : Int) < (l.length : Int) := by omega
   have z2 : (0 : Int) ≤ (k : Int) := by omega
   clear hx hc hmx hf
   rw [HF.out] at pn fm
   have po := PO.out ⟨sp, u, a, b⟩
   have FO : LeafOk wr ⟨sp, u, a, b⟩ _ _ := ⟨ra, rb, LOK.1, LOK.2.1, LOK.2.2.1, LOK.2.2.2⟩
   have CC := Hd (CO.out _ fm _ _ wr J.out FO)
   simp only [leafV] at CC
   generalize oneL ⟨sp, u, a, b⟩ m = WX at *
   have PNH := Hd pn
   have XLH := Hd xl
   have PXH := Hd (show (PX (k + 1)).length = (PX k).length + WX.length by rw [pn, List.length_append])
   clear ra rb FO LOK HF pn fm xl
   go_wp2_with fail
   refine CC.out.mono ?_
   rintro e w4 ⟨v6, m6, rfl, hm6, ov6, ow6, kk⟩
   obtain ⟨a6, l6, rfl⟩ := own_slice4 ow6
   have m6b : m6.length ≤ 360 := by have := congrArg List.length hm6; rw [List.length_map] at this; omega
   have OL := Hd ow6
   have OM := Hd (ov6.mono J0.out.size)
   have Q4 := Hd (own_kp OW.out kk)
   have QV4 := Hd (OV.out.kp kk)
   have K4 := Hd (J0.out.trans kk)
   have HM6 := Hd hm6
   clear kk CC ow6 ov6 hm6
   go_wp2_with (at_builtin; refine wpList_app rfl (.tmp 25) (.tmp 31) 22 rfl w2.heap.size 44 i0 (.agg #[.bool false, .int .i64 0, .slice none 0 0, .slice none 0 0]) 4 64 Tryz.underlying22 hi hz0 hz1 hz2 rfl (by decide) _ (PX k).length (cellsV x) rfl Q4.out _ m6.length (cellsV m6) rfl (own_srcV OL.out) (cellsV_length _) (cellsV_one (OwnV.reads OM.out)) (by unfold maxLen; omega) (by omega) K4.out.size ?_; intro v5 w5 own5 grow5 _; have K5 := Hd (K4.out.grown grow5 (fun j hj => (Q4.out.lt j hj).1)); have O5 := Hd own5; have V5 := Hd ((QV4.out.append OM.out).grown grow5 Q4.out); clear own5 grow5)
   have O6 := Hd (show w5.ownsRow w2.heap.size 44 4 v5 (PX (k + 1)).length (cellsV (x ++ m6)) by
    have e : m6.length = WX.length := by have := congrArg List.length HM6.out; rwa [List.length_map] at this
    rw [PXH.out, ← e, cellsV_append]
    exact O5.out)
   have HN6 := Hd (show (x ++ m6).map Prod.fst = PX (k + 1) by rw [List.map_append, HM.out, HM6.out, PNH.out])
   go_wp2
   go_roundw
   case rel => exact ⟨k + 1, x ++ m6, by omega, by go_num, HN6, V5, O6, K5⟩
   case measure => simp [intOf]; omega
  ·have q1 : decide ((k : Int) < (l.length : Int)) = false := dF
   obtain rfl : k = l.length := by omega
   have pb := PB.out l.length
   have LVX := Hd (show LeavesAt wr (.slice a5 (PX l.length).length l5) (PX l.length) by
    have h := OW.out
    rw [← xl] at h ⊢
    have h2 := leavesAt_own h (OwnV.reads OV.out)
    rw [HM.out] at h2
    exact h2)
   rw [PA.out] at LVX pb
   rw [PA.out]
   have JJ := J
   obtain ⟨wo, hwo⟩ : ∃ x, x = wr := ⟨_, rfl⟩
   subst hwo
   clear CO PN PB PO P0 PA HV HL OV OW HM J J0 xl
   by_cases h0 : X.length = 0
   ·have q2 : ((X.length : Int) == 0) = true := by rw [h0]; rfl
    have e9 := Hd (E9.out h0)
    clear h0
    go_wp2
    go_ret2
    exact ⟨_, [], _, rfl, .inl ⟨_, _, rfl, rfl⟩, e9.out.1.symm, e9.out.2.symm, JJ.out⟩
   have q2 : ((X.length : Int) == 0) = false := beq_eq_false_iff_ne.2 (by omega)
   have SN := Hd (fun j (h : j < X.length) => uSt_next h)
   have EN := Hd (fun j (h : j < X.length) => uEn_next h)
   have rs := rf_sts X
   have SB := Hd (fun j => show (uSt X j).length ≤ 900000 from Nat.le_trans (uSt_len X j) (by omega))
   have EB := Hd (fun j => show (uEn X j).length ≤ 900000 from Nat.le_trans (uEn_len X j) (by omega))
   have SS := Hd (uSt_sane X)
   have ES := Hd (uEn_sane X)
   have SA := Hd (uSt_all X)
   have EA := Hd (uEn_all X)
   have S0 := Hd (show RunsAt wo (.slice none 0 0) (uSt X 0) from .inl ⟨_, _, rfl, rfl⟩)
   have E0 := Hd (show RunsAt wo (.slice none 0 0) (uEn X 0) from .inl ⟨_, _, rfl, rfl⟩)
   have HVX := LVX
   have HLX := Hd (good_ok (L := X) (fun g hg => (GD.out g hg).1))
   have PLN := Hd (fun g (hg : g ∈ X) => (GD.out g hg).2)
   have H0 := Hd h0
   generalize uSt X = PS at *
   generalize uEn X = PE at *
   generalize nf (stsL X) = XS at *
   generalize nf (ensL X) = XE at *
   clear GD LVX rs
   go_wp2
   go_loopw [8, 9, 10] (fun q1 q2 i wr => ∃ j : Nat, j ≤ X.length ∧ i = .int .i64 j ∧ Hid (RunsAt wr q1 (PS j)) ∧ Hid (RunsAt wr q2 (PE j)) ∧ Hid (Kp wo wr)) (fun _ _ i _ => X.length - (intOf i).toNat)
   case atStart => exact ⟨0, Nat.zero_le _, rfl, S0, E0, Hd (Kp.refl _)⟩
   case round =>
    obtain ⟨j, hj, rfl, RS, RE, J3⟩ := hrel
    obtain ⟨sa, sc, rfl⟩ := RS.out.slice
    obtain ⟨ea, ec, rfl⟩ := RE.out.slice
    obtain ⟨wx, hwx⟩ : ∃ x, x = wr := ⟨_, rfl⟩
    subst hwx
    by_cases hlt : j < X.length
    ·have q3 : decide ((j : Int) < (X.length : Int)) = true := dT
     have s1 := SN.out j hlt
     have s2 := EN.out j hlt
     have s3 := SB.out j
     have s4 := EB.out j
     have pl := PLN.out _ (lat_mem hlt)
     rcases HVX.out.kp J3.out with ⟨_, _, _, e⟩ | ⟨b0, off, cap, ev, hc, hmx, hx⟩
     ·rw [e] at hlt; simp at hlt
     cases ev
     obtain ⟨va, vb, d0, d1, d2, d3, ra, rb⟩ := hx j hlt
     have LOK := HLX.out _ (lat_mem hlt)
     obtain ⟨f, hf⟩ : ∃ f, lat X j = f := ⟨_, rfl⟩
     rw [hf] at d0 d1 ra rb
     (try rw [hf] at LOK)
     obtain ⟨sp, u, a, b⟩ := f
     simp only at d0 d1 ra rb
     (try simp only at LOK)
     obtain ⟨aa, ca, rfl⟩ := ra.slice
     obtain ⟨ab, cb, rfl⟩ := rb.slice
     have HF := Hd hf
     have z1 : (j : Int) < (X.length : Int) := by omega
     have z2 : (0 : Int) ≤ (j : Int) := by omega
     clear hx hc hmx hf
     rw [HF.out] at s1 s2 pl
     have FO : LeafOk wx ⟨sp, u, a, b⟩ _ _ := ⟨ra, rb, LOK.1, LOK.2.1, LOK.2.2.1, LOK.2.2.2⟩
     have l1 := starts_len (famR ⟨sp, u, a, b⟩)
     have l2 := ends_len (famR ⟨sp, u, a, b⟩)
     have C1 := Hd (fun v w1 (kk : Kp wx w1) (r : RunsAt w1 v (startsR (famR ⟨sp, u, a, b⟩))) => runion_any _ v (PS j) (startsR (famR ⟨sp, u, a, b⟩)) w1 (RS.out.kp kk) r (sane_i64 (SS.out j)) (sane_i64 (starts_sane (famR_ok _))) (by omega))
     have C2 := Hd (fun v w1 (kk : Kp wx w1) (r : RunsAt w1 v (endsR (famR ⟨sp, u, a, b⟩))) => runion_any _ v (PE j) (endsR (famR ⟨sp, u, a, b⟩)) w1 (RE.out.kp kk) r (sane_i64 (ES.out j)) (sane_i64 (ends_sane (famR_ok _))) (by omega))
     rw [s1] at C1
     rw [s2] at C2
     unfold Plain at pl
     simp only at pl
     have CC := Hd (fun w1 (kk : Kp wx w1) => rboth_any ⟨sp, u, a, b⟩ _ _ w1 (FO.kp kk))
     simp only [leafV] at CC
     generalize bothS ⟨sp, u, a, b⟩ = B1 at *
     generalize bothE ⟨sp, u, a, b⟩ = B2 at *
     generalize startsR (famR ⟨sp, u, a, b⟩) = E1 at *
     generalize endsR (famR ⟨sp, u, a, b⟩) = E2 at *
     have k00 : Kp wx wx := Kp.refl _
     clear FO s1 s2 s3 s4 l1 l2 LOK HF HLX SN EN SB EB
     cases sp with
     | true =>
      rw [if_pos rfl, if_pos rfl] at pl
      have RA := Hd (show RunsAt wx (.slice aa a.length ca) E1 by rw [← pl.1]; exact ra)
      have RB := Hd (show RunsAt wx (.slice ab b.length cb) E2 by rw [← pl.2]; exact rb)
      clear pl ra rb
      go_wp2_with fail
      refine (C1.out _ _ k00 RA.out).mono ?_
      rintro e w5 ⟨v5, rfl, r5, kk⟩
      have K5 := Hd ((show Kp wx _ from k00).trans kk)
      have R5 := Hd r5
      have RB' := Hd (RB.out.kp K5.out)
      obtain ⟨a5, c5, rfl⟩ := r5.slice
      clear kk r5
      go_wp2_with fail
      refine (C2.out _ _ (ky K5.out) (RB'.out.kp (ky (Kp.refl w5)))).mono ?_
      rintro e w6 ⟨v6, rfl, r6, kk⟩
      have K6 := Hd (K5.out.trans kk)
      have R6 := Hd r6
      have R5' := Hd (R5.out.kp kk)
      obtain ⟨a6, c6, rfl⟩ := r6.slice
      clear kk r6
      go_wp2
      go_roundw
      case rel => exact ⟨j + 1, by omega, by go_num, R5', R6, Hd (J3.out.trans K6.out)⟩
      case measure => simp [intOf]; omega
     | false =>
      rw [if_neg (by decide), if_neg (by decide)] at pl
      have P1 := Hd pl.1
      have P2 := Hd pl.2
      clear pl ra rb
      go_wp2_with fail
      refine (CC.out _ k00).mono ?_
      rintro e w4 ⟨v1, v2, rfl, r1, r2, kk⟩
      rw [P1.out] at r1
      rw [P2.out] at r2
      have RA := Hd r1
      have RB := Hd r2
      have K4 := Hd kk
      obtain ⟨a7, c7, rfl⟩ := r1.slice
      obtain ⟨a8, c8, rfl⟩ := r2.slice
      clear kk r1 r2 P1 P2 d0 d1 d2 d3
      go_wp2_with fail
      refine (C1.out _ _ (ky K4.out) (RA.out.kp (ky (Kp.refl w4)))).mono ?_
      rintro e w5 ⟨v5, rfl, r5, kk⟩
      have K5 := Hd ((show Kp wx _ from (ky K4.out)).trans kk)
      have R5 := Hd r5
      have RB' := Hd (RB.out.kp (Kp.trans kx kk))
      obtain ⟨a5, c5, rfl⟩ := r5.slice
      clear kk r5
      go_wp2_with fail
      refine (C2.out _ _ (ky K5.out) (RB'.out.kp (ky (Kp.refl w5)))).mono ?_
      rintro e w6 ⟨v6, rfl, r6, kk⟩
      have K6 := Hd (K5.out.trans kk)
      have R6 := Hd r6
      have R5' := Hd (R5.out.kp kk)
      obtain ⟨a6, c6, rfl⟩ := r6.slice
      clear kk r6
      go_wp2
      go_roundw
      case rel => exact ⟨j + 1, by omega, by go_num, R5', R6, Hd (J3.out.trans K6.out)⟩
      case measure => simp [intOf]; omega
    ·have q3 : decide ((j : Int) < (X.length : Int)) = false := dF
     obtain rfl : j = X.length := by omega
     rw [SA.out] at RS
     rw [EA.out] at RE
     have LVX := Hd (HVX.out.kp J3.out)
     have KZ := Hd (JJ.out.trans J3.out)
     rw [SA.out, EA.out]
     clear SN EN SB EB SS ES HVX HLX
     by_cases g1 : 400 < XS.length
     ·have e8 := Hd (EW.out h0 (.inl g1))
      have t1 : decide ((XS.length : Int) > 400) = true := dT
      have t2 : decide (400 < XS.length) = true := decide_eq_true g1
      have t3 : decide ((400 : Int) < (XS.length : Int)) = true := dT
      clear g1
      go_wp2
      go_ret2
      exact ⟨_, [], _, rfl, .inl ⟨_, _, rfl, rfl⟩, e8.out.1.symm, e8.out.2.symm, KZ.out⟩
     ·have t1 : decide ((XS.length : Int) > 400) = false := dF
      have t2 : decide (400 < XS.length) = false := decide_eq_false g1
      have t3 : decide ((400 : Int) < (XS.length : Int)) = false := dF
      by_cases g2 : 400 < XE.length
      ·have e8 := Hd (EW.out h0 (.inr g2))
       have u1 : decide ((XE.length : Int) > 400) = true := dT
       have u2 : decide (400 < XE.length) = true := decide_eq_true g2
       have u3 : decide ((400 : Int) < (XE.length : Int)) = true := dT
       clear g1 g2
       go_wp2
       go_ret2
       exact ⟨_, [], _, rfl, .inl ⟨_, _, rfl, rfl⟩, e8.out.1.symm, e8.out.2.symm, KZ.out⟩
      ·have e0 := Hd (EZ.out h0 g1 g2)
       have u1 : decide ((XE.length : Int) > 400) = false := dF
       have u2 : decide (400 < XE.length) = false := decide_eq_false g2
       have u3 : decide ((400 : Int) < (XE.length : Int)) = false := dF
       clear g1 g2
       go_wp2
       go_ret2
       exact ⟨_, X, _, rfl, LVX.out, e0.out.1.symm, e0.out.2.symm, KZ.out⟩
theorem rnarrow_any (vl vm : Value) (l m : List LF) (w : World) (hv : LeavesAt w vl l) (hu : LeavesAt w vm m) (hl : LsOk l) (hm : LsOk m) (ql : ∀ f ∈ l, f.a.length ≤ 40 ∧ f.b.length ≤ 40) (qm : ∀ g ∈ m, g.a.length ≤ 40 ∧ g.b.length ≤ 40) (nl : l.length ≤ 6) (nm : m.length ≤ 6) (fl : ∀ f ∈ l, FewU f) (fm : ∀ f ∈ m, FewU f) :
  Calls Tryz.prog 16 #[vl, vm] w fun e w' => ∃ v L n, e = .returned (.tuple #[v, .int .i64 n]) ∧ LeavesAt w' v L ∧ n = narE l m (refL l m) ∧ L = narL l m (refL l m) ∧ Kp w w' := by
 rcases Bool.eq_false_or_eq_true (okEs l) with h1 | h1
 ·rcases Bool.eq_false_or_eq_true (okEs m) with h2 | h2
  ·exact rnar_c vl vm l m w hv hu hl hm ql qm nl nm fl fm h1 h2
  ·exact rnar_b vl vm l m w hv hu hl hm h1 h2
 ·exact rnar_a vl vm l m w hv hu hl hm h1
theorem few22_units {l : List LF} (h : few22 l = true) : unitsN l ≤ 60 := by
 unfold few22 at h
 rw [Bool.and_eq_true, Bool.and_eq_true, decide_eq_true_eq] at h
 exact h.2.1
theorem nar_sts {l m : List LF} {n : Int} {L : List LF} (h : NarP l m n L) (hl : Sml l) (kI : (rawI m).length ≤ 120) (dD : (rawD m).length ≤ 480) : (stsL L).length ≤ 90000 ∧ (ensL L).length ≤ 90000 := by
 rcases h with ⟨_, rfl, _⟩ | ⟨_, rfl, _⟩ | ⟨_, _, _, _, _, _, K, hK, rfl⟩
 ·exact ⟨by simp [stsL], by simp [ensL]⟩
 ·exact ⟨by simp [stsL], by simp [ensL]⟩
 ·have h1 := hK.len
  have h2 := nf_len K
  have h3 := diffR_len (a := rawD m) (b := nf K)
  have h4 := left_bd (K := K) (D := diffR (rawD m) (nf K)) (l := l) (A := 40) (W := 7000) hl.1 (diffR_sane _ _) (by omega)
  have h5 := hl.2
  have h6 : l.length * 7000 ≤ 12 * 7000 := Nat.mul_le_mul_right _ h5
  omega
theorem narL_sts {l m : List LF} (h : ∀ g ∈ m, FewU g) (nm : m.length ≤ 6) (nl : l.length ≤ 6) : (stsL (narL l m (refL l m))).length ≤ 864000 ∧ (ensL (narL l m (refL l m))).length ≤ 864000 := by
 have h1 := rf_len h nm nl l.length
 rw [rf_all] at h1
 have h2 := rf_sts (refL l m)
 unfold narL
 split
 ·omega
 ·exact ⟨by simp [stsL], by simp [ensL]⟩
theorem narQ_good {l m : List LF} {n : Int} {L : List LF} (h : NarQ l m n L) : ∀ g ∈ L, GLf g := by
 rcases h with ⟨_, rfl, _⟩ | ⟨_, rfl, _⟩ | ⟨_, _, _, h, _⟩
 ·intro g hg; cases hg
 ·intro g hg; cases hg
 ·exact h
theorem rnarS_any (vl vm : Value) (l m : List LF) (w : World) (hv : LeavesAt w vl l) (hu : LeavesAt w vm m) (hl : LsOk l) (hm : LsOk m) (ql : ∀ f ∈ l, f.a.length ≤ 40 ∧ f.b.length ≤ 40) (qm : ∀ g ∈ m, g.a.length ≤ 40 ∧ g.b.length ≤ 40) (nl : l.length ≤ 6) (nm : m.length ≤ 6) (fl : ∀ f ∈ l, FewU f) (fm : ∀ f ∈ m, FewU f) :
  Calls Tryz.prog 16 #[vl, vm] w fun e w' => ∃ ad c, e = .returned (.tuple #[.slice ad (narL l m (refL l m)).length c, .int .i64 (narE l m (refL l m))]) ∧ LeavesAt w' (.slice ad (narL l m (refL l m)).length c) (narL l m (refL l m)) ∧ Kp w w' :=
 (rnarrow_any vl vm l m w hv hu hl hm ql qm nl nm fl fm).mono (by
  rintro e w' ⟨v, L, n, rfl, lv, rfl, rfl, kk⟩
  obtain ⟨ad, c, rfl⟩ := lv.slice
  exact ⟨ad, c, rfl, lv, kk⟩)
theorem nis_f1 (vl : Value) (l : List LF) (vm : Value) (m : List LF) (pS pE : Int) (w : World) (rl : LeavesAt w vl l) (gl : ∀ f ∈ l, LeafG f) (rm : LeavesAt w vm m) (gm : ∀ f ∈ m, LeafG f) (hp1 : -9223372036854775808 ≤ pS) (hp2 : pS ≤ 9223372036854775807) (hp3 : -9223372036854775808 ≤ pE) (hp4 : pE ≤ 9223372036854775807) (T : Tabs w) (hf : few22 l = false) :
  Calls Tryz.prog 4 #[vl, vm, .agg #[.int .i64 pS, .int .i64 pE]] w fun e w' => e = .returned (.bool true) ∧ Kp w w' := by
 have RFL := Hd (fun w1 (kk : Kp w w1) => few22_any vl l w1 (rl.kp kk) gl)
 have RFM := Hd (fun w1 (kk : Kp w w1) => few22_any vm m w1 (rm.kp kk) gm)
 rw [hf] at RFL
 obtain ⟨adl, cal, rfl⟩ := rl.slice
 obtain ⟨adm, cam, rfl⟩ := rm.slice
 obtain ⟨W0, hW⟩ : ∃ W0, W0 = w.alloc (.cells #[.int .i64 pS, .int .i64 pE] 31) := ⟨_, rfl⟩
 have K00 := Hd (show Kp w W0 by rw [hW]; exact Kp.alloc _ _)
 have HB := Hd (fun w1 (k : Kp W0 w1) => show w1.cell? ⟨w.heap.size, 0, none⟩ = some (.int .i64 pS) ∧ w1.cell? ⟨w.heap.size, 1, none⟩ = some (.int .i64 pE) from ⟨cell_up k (show W0.cell? ⟨w.heap.size, 0, none⟩ = some (.int .i64 pS) by rw [hW]; simp), cell_up k (show W0.cell? ⟨w.heap.size, 1, none⟩ = some (.int .i64 pE) by rw [hW]; simp)⟩)
 obtain ⟨c0, c1⟩ := HB.out W0 (Kp.refl _)
 have K0 := Hd (Kp.refl W0)
 have HW := Hd hW
 clear hW
 have AW := Hd (fun w1 (kk : Kp W0 w1) => awake22 w1 (T.kp (K00.out.trans kk)))
 have F1 := Hd (fun w1 (kk : Kp W0 w1) => RFL.out w1 (K00.out.trans kk))
 have F2 := Hd (fun w1 (kk : Kp W0 w1) => RFM.out w1 (K00.out.trans kk))
 clear rl rm gl gm T
 go_enter Tryz.func4, Tryz.ntmps4
 go_wp2_with fail
 rw [← HW.out]
 refine (AW.out _ (ky K0.out)).mono ?_
 rintro e w1 ⟨rfl, kk⟩
 have K1 := Hd ((show Kp W0 _ from (ky K0.out)).trans kk)
 clear kk
 clear c0 c1
 obtain ⟨c0, c1⟩ := HB.out w1 K1.out
 go_wp2_with fail
 refine (F1.out _ (ky K1.out)).mono ?_
 rintro e w2 ⟨rfl, kk⟩
 have K2 := Hd ((show Kp W0 _ from (ky K1.out)).trans kk)
 clear kk
 clear c0 c1
 obtain ⟨c0, c1⟩ := HB.out w2 K2.out
 go_wp2
 go_ret
 exact ⟨rfl, K00.out.trans K2.out⟩
theorem nis_f2 (vl : Value) (l : List LF) (vm : Value) (m : List LF) (pS pE : Int) (w : World) (rl : LeavesAt w vl l) (gl : ∀ f ∈ l, LeafG f) (rm : LeavesAt w vm m) (gm : ∀ f ∈ m, LeafG f) (hp1 : -9223372036854775808 ≤ pS) (hp2 : pS ≤ 9223372036854775807) (hp3 : -9223372036854775808 ≤ pE) (hp4 : pE ≤ 9223372036854775807) (T : Tabs w) (hf : few22 l = true) (hg : few22 m = false) :
  Calls Tryz.prog 4 #[vl, vm, .agg #[.int .i64 pS, .int .i64 pE]] w fun e w' => e = .returned (.bool true) ∧ Kp w w' := by
 have RFL := Hd (fun w1 (kk : Kp w w1) => few22_any vl l w1 (rl.kp kk) gl)
 have RFM := Hd (fun w1 (kk : Kp w w1) => few22_any vm m w1 (rm.kp kk) gm)
 rw [hf] at RFL
 rw [hg] at RFM
 obtain ⟨adl, cal, rfl⟩ := rl.slice
 obtain ⟨adm, cam, rfl⟩ := rm.slice
 obtain ⟨W0, hW⟩ : ∃ W0, W0 = w.alloc (.cells #[.int .i64 pS, .int .i64 pE] 31) := ⟨_, rfl⟩
 have K00 := Hd (show Kp w W0 by rw [hW]; exact Kp.alloc _ _)
 have HB := Hd (fun w1 (k : Kp W0 w1) => show w1.cell? ⟨w.heap.size, 0, none⟩ = some (.int .i64 pS) ∧ w1.cell? ⟨w.heap.size, 1, none⟩ = some (.int .i64 pE) from ⟨cell_up k (show W0.cell? ⟨w.heap.size, 0, none⟩ = some (.int .i64 pS) by rw [hW]; simp), cell_up k (show W0.cell? ⟨w.heap.size, 1, none⟩ = some (.int .i64 pE) by rw [hW]; simp)⟩)
 obtain ⟨c0, c1⟩ := HB.out W0 (Kp.refl _)
 have K0 := Hd (Kp.refl W0)
 have HW := Hd hW
 clear hW
 have AW := Hd (fun w1 (kk : Kp W0 w1) => awake22 w1 (T.kp (K00.out.trans kk)))
 have F1 := Hd (fun w1 (kk : Kp W0 w1) => RFL.out w1 (K00.out.trans kk))
 have F2 := Hd (fun w1 (kk : Kp W0 w1) => RFM.out w1 (K00.out.trans kk))
 clear rl rm gl gm T
 go_enter Tryz.func4, Tryz.ntmps4
 go_wp2_with fail
 rw [← HW.out]
 refine (AW.out _ (ky K0.out)).mono ?_
 rintro e w1 ⟨rfl, kk⟩
 have K1 := Hd ((show Kp W0 _ from (ky K0.out)).trans kk)
 clear kk
 clear c0 c1
 obtain ⟨c0, c1⟩ := HB.out w1 K1.out
 go_wp2_with fail
 refine (F1.out _ (ky K1.out)).mono ?_
 rintro e w2 ⟨rfl, kk⟩
 have K2 := Hd ((show Kp W0 _ from (ky K1.out)).trans kk)
 clear kk
 clear c0 c1
 obtain ⟨c0, c1⟩ := HB.out w2 K2.out
 go_wp2_with fail
 refine (F2.out _ (ky K2.out)).mono ?_
 rintro e w3 ⟨rfl, kk⟩
 have K3 := Hd ((show Kp W0 _ from (ky K2.out)).trans kk)
 clear kk
 clear c0 c1
 obtain ⟨c0, c1⟩ := HB.out w3 K3.out
 go_wp2
 go_ret
 exact ⟨rfl, K00.out.trans K3.out⟩
abbrev nisA0 : Oper := ⟨some 48, .move (.tmp 7), 4, "law.go:56", #[], none⟩
abbrev nisA1 : Oper := ⟨some 49, .move (.tmp 48), 4, "law.go:56", #[⟨0, .data⟩], none⟩
abbrev nisA2 : Oper := ⟨some 50, .move (.tmp 1), 22, "law.go:56", #[⟨1, .guard⟩], some (1, true)⟩
abbrev nisA3 : Oper := ⟨some 51, .load 31 (.tmp 5), 31, "law.go:56", #[⟨1, .guard⟩], some (1, true)⟩
abbrev nisA4 : Oper := ⟨some 52, .call ⟨.value (.func 18), #[.tmp 50, .tmp 51], #[22, 31]⟩, 4, "law.go:56", #[⟨2, .data⟩, ⟨3, .data⟩, ⟨1, .chain⟩, ⟨1, .guard⟩], some (1, true)⟩
abbrev nisA5 : Oper := ⟨some 53, .move (.tmp 1), 22, "law.go:56", #[⟨1, .guard⟩], some (1, true)⟩
abbrev nisA6 : Oper := ⟨some 54, .load 31 (.tmp 5), 31, "law.go:56", #[⟨1, .guard⟩], some (1, true)⟩
abbrev nisA7 : Oper := ⟨some 55, .call ⟨.value (.func 19), #[.tmp 53, .tmp 54], #[22, 31]⟩, 4, "law.go:56", #[⟨5, .data⟩, ⟨6, .data⟩, ⟨4, .chain⟩, ⟨1, .guard⟩], some (1, true)⟩
abbrev nisA8 : Oper := ⟨some 56, .binOp .eql 4 (.tmp 52) (.tmp 55) 4, 4, "law.go:56", #[⟨4, .data⟩, ⟨7, .data⟩, ⟨1, .guard⟩], some (1, true)⟩
abbrev nisA9 : Oper := ⟨some 57, .pick (.tmp 49) (.tmp 56) (.const (.bool false)), 4, "law.go:56", #[⟨1, .data⟩, ⟨8, .data⟩], none⟩
abbrev nisA10 : Oper := ⟨some 58, .move (.tmp 57), 4, "law.go:56", #[⟨9, .data⟩, ⟨7, .chain⟩], none⟩
abbrev nisA11 : Oper := ⟨some 59, .move (.tmp 9), 25, "law.go:56", #[⟨10, .guard⟩], some (10, true)⟩
abbrev nisA12 : Oper := ⟨some 60, .move (.tmp 11), 25, "law.go:56", #[⟨10, .guard⟩], some (10, true)⟩
abbrev nisA13 : Oper := ⟨some 61, .binOp .eql 25 (.tmp 59) (.tmp 60) 25, 4, "law.go:56", #[⟨11, .data⟩, ⟨12, .data⟩, ⟨10, .guard⟩], some (10, true)⟩
abbrev nisA14 : Oper := ⟨some 62, .pick (.tmp 58) (.tmp 61) (.const (.bool false)), 4, "law.go:56", #[⟨10, .data⟩, ⟨13, .data⟩], none⟩
abbrev nisA15 : Oper := ⟨some 63, .move (.tmp 62), 4, "law.go:56", #[⟨14, .data⟩, ⟨10, .chain⟩], none⟩
abbrev nisA16 : Oper := ⟨some 64, .move (.tmp 9), 25, "law.go:56", #[⟨15, .guard⟩], some (15, true)⟩
abbrev nisA17 : Oper := ⟨some 65, .binOp .eql 25 (.tmp 64) (.const (.int .i64 0)) 25, 4, "law.go:56", #[⟨16, .data⟩, ⟨15, .guard⟩], some (15, true)⟩
abbrev nisA18 : Oper := ⟨some 66, .move (.tmp 65), 4, "law.go:56", #[⟨17, .data⟩, ⟨15, .chain⟩, ⟨15, .guard⟩], some (15, true)⟩
abbrev nisA19 : Oper := ⟨some 67, .move (.tmp 8), 22, "law.go:56", #[⟨18, .guard⟩], some (18, false)⟩
abbrev nisA20 : Oper := ⟨some 68, .call ⟨.builtin .len, #[.tmp 67], #[22]⟩, 3, "law.go:56", #[⟨19, .data⟩, ⟨18, .guard⟩], some (18, false)⟩
abbrev nisA21 : Oper := ⟨some 69, .binOp .eql 3 (.tmp 68) (.const (.int .i64 0)) 3, 4, "law.go:56", #[⟨20, .data⟩, ⟨18, .guard⟩], some (18, false)⟩
abbrev nisA22 : Oper := ⟨some 70, .pick (.tmp 66) (.const (.bool true)) (.tmp 69), 4, "law.go:56", #[⟨18, .data⟩, ⟨21, .data⟩, ⟨15, .guard⟩], some (15, true)⟩
abbrev nisA23 : Oper := ⟨some 71, .pick (.tmp 63) (.tmp 70) (.const (.bool false)), 4, "law.go:56", #[⟨15, .data⟩, ⟨22, .data⟩], none⟩
abbrev nisA24 : Oper := ⟨some 72, .move (.tmp 71), 4, "law.go:56", #[⟨23, .data⟩, ⟨18, .chain⟩], none⟩
abbrev nisA25 : Oper := ⟨some 73, .move (.tmp 8), 22, "law.go:56", #[⟨24, .guard⟩], some (24, true)⟩
abbrev nisA26 : Oper := ⟨some 74, .load 31 (.tmp 5), 31, "law.go:56", #[⟨24, .guard⟩], some (24, true)⟩
abbrev nisA27 : Oper := ⟨some 75, .call ⟨.value (.func 20), #[.tmp 73, .tmp 74], #[22, 31]⟩, 4, "law.go:56", #[⟨25, .data⟩, ⟨26, .data⟩, ⟨24, .chain⟩, ⟨24, .guard⟩], some (24, true)⟩
abbrev nisA28 : Oper := ⟨some 76, .move (.tmp 10), 22, "law.go:56", #[⟨24, .guard⟩], some (24, true)⟩
abbrev nisA29 : Oper := ⟨some 77, .load 31 (.tmp 5), 31, "law.go:56", #[⟨24, .guard⟩], some (24, true)⟩
abbrev nisA30 : Oper := ⟨some 78, .call ⟨.value (.func 21), #[.tmp 76, .tmp 77], #[22, 31]⟩, 4, "law.go:56", #[⟨28, .data⟩, ⟨29, .data⟩, ⟨27, .chain⟩, ⟨24, .guard⟩], some (24, true)⟩
abbrev nisA31 : Oper := ⟨some 79, .binOp .eql 4 (.tmp 75) (.tmp 78) 4, 4, "law.go:56", #[⟨27, .data⟩, ⟨30, .data⟩, ⟨24, .guard⟩], some (24, true)⟩
abbrev nisA32 : Oper := ⟨some 80, .pick (.tmp 72) (.tmp 79) (.const (.bool false)), 4, "law.go:56", #[⟨24, .data⟩, ⟨31, .data⟩], none⟩
abbrev nisA33 : Oper := ⟨some 81, .move (.tmp 80), 4, "law.go:56", #[⟨32, .data⟩, ⟨30, .chain⟩], none⟩
abbrev nisA34 : Oper := ⟨some 82, .move (.tmp 12), 34, "law.go:56", #[⟨33, .guard⟩], some (33, true)⟩
abbrev nisA35 : Oper := ⟨some 83, .move (.tmp 14), 34, "law.go:56", #[⟨33, .guard⟩], some (33, true)⟩
abbrev nisA36 : Oper := ⟨some 84, .call ⟨.value (.func 22), #[.tmp 82, .tmp 83], #[34, 34]⟩, 4, "law.go:56", #[⟨34, .data⟩, ⟨35, .data⟩, ⟨33, .chain⟩, ⟨33, .guard⟩], some (33, true)⟩
abbrev nisA37 : Oper := ⟨some 85, .pick (.tmp 81) (.tmp 84) (.const (.bool false)), 4, "law.go:56", #[⟨33, .data⟩, ⟨36, .data⟩], none⟩
abbrev nisA38 : Oper := ⟨some 86, .move (.tmp 85), 4, "law.go:56", #[⟨37, .data⟩, ⟨36, .chain⟩], none⟩
abbrev nisA39 : Oper := ⟨some 87, .move (.tmp 13), 34, "law.go:56", #[⟨38, .guard⟩], some (38, true)⟩
abbrev nisA40 : Oper := ⟨some 88, .move (.tmp 15), 34, "law.go:56", #[⟨38, .guard⟩], some (38, true)⟩
abbrev nisA41 : Oper := ⟨some 89, .call ⟨.value (.func 22), #[.tmp 87, .tmp 88], #[34, 34]⟩, 4, "law.go:56", #[⟨39, .data⟩, ⟨40, .data⟩, ⟨38, .chain⟩, ⟨38, .guard⟩], some (38, true)⟩
abbrev nisA42 : Oper := ⟨some 90, .pick (.tmp 86) (.tmp 89) (.const (.bool false)), 4, "law.go:56", #[⟨38, .data⟩, ⟨41, .data⟩], none⟩
abbrev nisA43 : Oper := ⟨some 6, .assign (.tmp 90), 4, "law.go:56", #[⟨42, .data⟩, ⟨41, .chain⟩, ⟨0, .phase⟩, ⟨1, .phase⟩, ⟨2, .phase⟩, ⟨3, .phase⟩, ⟨4, .phase⟩, ⟨5, .phase⟩, ⟨6, .phase⟩, ⟨7, .phase⟩, ⟨8, .phase⟩, ⟨9, .phase⟩, ⟨10, .phase⟩, ⟨11, .phase⟩, ⟨12, .phase⟩, ⟨13, .phase⟩, ⟨14, .phase⟩, ⟨15, .phase⟩, ⟨16, .phase⟩, ⟨17, .phase⟩, ⟨18, .phase⟩, ⟨19, .phase⟩, ⟨20, .phase⟩, ⟨21, .phase⟩, ⟨22, .phase⟩, ⟨23, .phase⟩, ⟨24, .phase⟩, ⟨25, .phase⟩, ⟨26, .phase⟩, ⟨27, .phase⟩, ⟨28, .phase⟩, ⟨29, .phase⟩, ⟨30, .phase⟩, ⟨31, .phase⟩, ⟨32, .phase⟩, ⟨33, .phase⟩, ⟨34, .phase⟩, ⟨35, .phase⟩, ⟨36, .phase⟩, ⟨37, .phase⟩, ⟨38, .phase⟩, ⟨39, .phase⟩, ⟨40, .phase⟩, ⟨41, .phase⟩, ⟨42, .phase⟩], none⟩
theorem nis_main (vl : Value) (l : List LF) (vm : Value) (m : List LF) (pS pE : Int) (w : World) (rl : LeavesAt w vl l) (gl : ∀ f ∈ l, LeafG f) (rm : LeavesAt w vm m) (gm : ∀ f ∈ m, LeafG f) (hp1 : -9223372036854775808 ≤ pS) (hp2 : pS ≤ 9223372036854775807) (hp3 : -9223372036854775808 ≤ pE) (hp4 : pE ≤ 9223372036854775807) (T : Tabs w) (hf : few22 l = true) (hg : few22 m = true) :
  Calls Tryz.prog 4 #[vl, vm, .agg #[.int .i64 pS, .int .i64 pE]] w fun e w' => e = .returned (.bool true) ∧ Kp w w' := by
 have RFL := Hd (fun w1 (kk : Kp w w1) => few22_any vl l w1 (rl.kp kk) gl)
 have RFM := Hd (fun w1 (kk : Kp w w1) => few22_any vm m w1 (rm.kp kk) gm)
 rw [hf] at RFL
 rw [hg] at RFM
 obtain ⟨ok, sm, ln, _, _⟩ := few22_told hf gl
 obtain ⟨okm, smm, lm, kI, dD⟩ := few22_told hg gm
 have fu : ∀ f ∈ l, FewU f := fun f q => fewU_of (by have := (uni_le ok).2 f q; have := few22_units hf; omega)
 have fum : ∀ f ∈ m, FewU f := fun f q => fewU_of (by have := (uni_le okm).2 f q; have := few22_units hg; omega)
 have NQ := Hd (narQ_told sm.1 smm.1 lm)
 have QS := narL_sts (l := l) fum lm ln
 have SMH := Hd (fun (n : Int) (L : List LF) (h : NarP l m n L) => nar_sts h sm (Nat.le_trans kI (by decide)) (Nat.le_trans dD (by decide)))
 have RN := Hd (fun w1 (kk : Kp w w1) => nwN_any vl vm l m w1 (rl.kp kk) (rm.kp kk) ok okm (T.kp kk) sm (by omega) (by omega))
 have RQ := Hd (fun w1 (kk : Kp w w1) => rnarS_any vl vm l m w1 (rl.kp kk) (rm.kp kk) ok okm sm.1 smm.1 ln lm fu fum)
 have RI := Hd (fun w1 (kk : Kp w w1) => nwInside_any vm m pS pE w1 (rm.kp kk) okm (T.kp kk) hp1 hp2 hp3 hp4)
 have RJ := Hd (fun w1 (kk : Kp w w1) => rInside_any vm m pS pE w1 (rm.kp kk) okm hp1 hp2 hp3 hp4)
 have RHX := Hd (fun v L w1 (h : LeavesAt w1 v L) (ho : LsOk L) (kk : Kp w w1) => denHas_any v L pS pE w1 h ho (T.kp kk) hp1 hp2 hp3 hp4)
 have RHY := Hd (fun v L w1 (h : LeavesAt w1 v L) (ho : LsOk L) => rHas15_any v L pS pE w1 h ho hp1 hp2 hp3 hp4)
 have RE := Hd (fun v L w1 (h : LeavesAt w1 v L) (ho : LsOk L) (kk : Kp w w1) n1 n2 => lawEnds_any v L w1 h ho (T.kp kk) n1 n2)
 generalize narE l m (refL l m) = NE at *
 generalize narL l m (refL l m) = NL at *
 obtain ⟨adl, cal, rfl⟩ := rl.slice
 obtain ⟨adm, cam, rfl⟩ := rm.slice
 obtain ⟨W0, hW⟩ : ∃ W0, W0 = w.alloc (.cells #[.int .i64 pS, .int .i64 pE] 31) := ⟨_, rfl⟩
 have K00 := Hd (show Kp w W0 by rw [hW]; exact Kp.alloc _ _)
 have HB := Hd (fun w1 (k : Kp W0 w1) => show w1.cell? ⟨w.heap.size, 0, none⟩ = some (.int .i64 pS) ∧ w1.cell? ⟨w.heap.size, 1, none⟩ = some (.int .i64 pE) from ⟨cell_up k (show W0.cell? ⟨w.heap.size, 0, none⟩ = some (.int .i64 pS) by rw [hW]; simp), cell_up k (show W0.cell? ⟨w.heap.size, 1, none⟩ = some (.int .i64 pE) by rw [hW]; simp)⟩)
 obtain ⟨c0, c1⟩ := HB.out W0 (Kp.refl _)
 have K0 := Hd (Kp.refl W0)
 have HW := Hd hW
 clear hW
 have AW := Hd (fun w1 (kk : Kp W0 w1) => awake22 w1 (T.kp (K00.out.trans kk)))
 have F1 := Hd (fun w1 (kk : Kp W0 w1) => RFL.out w1 (K00.out.trans kk))
 have F2 := Hd (fun w1 (kk : Kp W0 w1) => RFM.out w1 (K00.out.trans kk))
 have N1 := Hd (fun w1 (kk : Kp W0 w1) => RN.out w1 (K00.out.trans kk))
 have N2 := Hd (fun w1 (kk : Kp W0 w1) => RQ.out w1 (K00.out.trans kk))
 have IN1 := Hd (fun w1 (kk : Kp W0 w1) => RI.out w1 (K00.out.trans kk))
 have IN2 := Hd (fun w1 (kk : Kp W0 w1) => RJ.out w1 (K00.out.trans kk))
 have HX1 := Hd (fun v L w1 h ho (kk : Kp W0 w1) => RHX.out v L w1 h ho (K00.out.trans kk))
 have EN := Hd (fun v L w1 h ho (kk : Kp W0 w1) n1 n2 => RE.out v L w1 h ho (K00.out.trans kk) n1 n2)
 generalize inB m pS pE = bi at *
 clear rl rm gl gm T RN RQ RI RJ RHX RE RFL RFM sm smm okm ok hf hg fu fum kI dD
 go_enter Tryz.func4, Tryz.ntmps4
 go_wp2_with fail
 rw [← HW.out]
 refine (AW.out _ (ky K0.out)).mono ?_
 rintro e w1 ⟨rfl, kk⟩
 have K1 := Hd ((show Kp W0 _ from (ky K0.out)).trans kk)
 clear kk
 clear c0 c1
 obtain ⟨c0, c1⟩ := HB.out w1 K1.out
 go_wp2_with fail
 refine (F1.out _ (ky K1.out)).mono ?_
 rintro e w2 ⟨rfl, kk⟩
 have K2 := Hd ((show Kp W0 _ from (ky K1.out)).trans kk)
 clear kk
 clear c0 c1
 obtain ⟨c0, c1⟩ := HB.out w2 K2.out
 go_wp2_with fail
 refine (F2.out _ (ky K2.out)).mono ?_
 rintro e w3 ⟨rfl, kk⟩
 have K3 := Hd ((show Kp W0 _ from (ky K2.out)).trans kk)
 clear kk
 clear c0 c1
 obtain ⟨c0, c1⟩ := HB.out w3 K3.out
 go_wp2_with fail
 refine (N1.out _ (ky K3.out)).mono ?_
 rintro e w4 ⟨ad, L, c, n, rfl, ⟨lv, np⟩, kk⟩
 have K4 := Hd ((show Kp W0 _ from (ky K3.out)).trans kk)
 clear kk
 clear c0 c1
 obtain ⟨c0, c1⟩ := HB.out w4 K4.out
 obtain ⟨lok, _, _⟩ := nar_ok np
 obtain ⟨sE, sL, sH, sS, sN⟩ := narQ_same (narP_Q np) NQ.out
 have sb := SMH.out _ _ np
 subst sE
 have LV := Hd lv
 have LO := Hd lok
 have LO2 := Hd (good_ok (narQ_good NQ.out))
 have lmx := lv.len
 unfold maxLen at lmx
 clear np lok lv SMH NQ
 have G4_4 := Hd (Kp.refl w4)
 go_wp2_with fail
 refine (N2.out _ (ky K4.out)).mono ?_
 rintro e w5 ⟨ad5, cp5, rfl, lv5, kk⟩
 have K5 := Hd ((show Kp W0 _ from (ky K4.out)).trans kk)
 have G4_5 := Hd (G4_4.out.trans ((show Kp w4 _ from kx).trans kk))
 have LV5 := Hd lv5
 clear lv5
 clear kk
 clear c0 c1
 obtain ⟨c0, c1⟩ := HB.out w5 K5.out
 have G5_5 := Hd (Kp.refl w5)
 have C6 := Hd (fun v w1 h (kk : Kp W0 w1) => EN.out v L w1 h LO.out kk (by omega) (by omega))
 have C7 := Hd (fun v w1 h (kk : Kp W0 w1) => EN.out v NL w1 h LO2.out kk (by omega) (by omega))
 rw [← sS, ← sN] at C7
 have x1 := nf_len (stsL L)
 have x2 := nf_len (ensL L)
 have CHX := Hd (fun v w1 h (kk : Kp W0 w1) => HX1.out v L w1 h LO.out kk)
 have CHY := Hd (fun v w1 h => RHY.out v NL w1 h LO2.out)
 rw [← sH] at CHY
 have CSS := Hd (fun v u w1 r1 r2 => rsame_any v u (nf (stsL L)) (nf (stsL L)) w1 r1 r2 (by omega) (by omega))
 have CSN := Hd (fun v u w1 r1 r2 => rsame_any v u (nf (ensL L)) (nf (ensL L)) w1 r1 r2 (by omega) (by omega))
 rw [decide_eq_true (rfl : nf (stsL L) = nf (stsL L))] at CSS
 rw [decide_eq_true (rfl : nf (ensL L) = nf (ensL L))] at CSN
 have DL := Hd (show n = 0 ∨ L.length = 0 from sL.imp id fun q => by rw [q]; rfl)
 generalize hasL L pS pE = hb at *
 generalize nf (stsL L) = XS at *
 generalize nf (ensL L) = XE at *
 clear sb sS sN sL sH QS x1 x2 HX1 RHY EN
 go_wp2_with fail
 refine (C6.out _ _ (LV.out.kp (G4_5.out.trans kx)) (ky K5.out)).mono ?_
 rintro e w6 ⟨v6, u6, rfl, r6, s6, kk⟩
 have K6 := Hd ((show Kp W0 _ from (ky K5.out)).trans kk)
 have G4_6 := Hd (G4_5.out.trans ((show Kp w5 _ from kx).trans kk))
 have G5_6 := Hd (G5_5.out.trans ((show Kp w5 _ from kx).trans kk))
 obtain ⟨a6, e6, rfl⟩ := r6.slice
 obtain ⟨b6, f6, rfl⟩ := s6.slice
 have R6 := Hd r6
 have S6 := Hd s6
 clear r6 s6
 clear kk
 clear c0 c1
 obtain ⟨c0, c1⟩ := HB.out w6 K6.out
 have G6_6 := Hd (Kp.refl w6)
 go_wp2_with fail
 refine (C7.out _ _ (LV5.out.kp (G5_6.out.trans kx)) (ky K6.out)).mono ?_
 rintro e w7 ⟨v7, u7, rfl, r7, s7, kk⟩
 have K7 := Hd ((show Kp W0 _ from (ky K6.out)).trans kk)
 have G4_7 := Hd (G4_6.out.trans ((show Kp w6 _ from kx).trans kk))
 have G5_7 := Hd (G5_6.out.trans ((show Kp w6 _ from kx).trans kk))
 have G6_7 := Hd (G6_6.out.trans ((show Kp w6 _ from kx).trans kk))
 obtain ⟨a7, e7, rfl⟩ := r7.slice
 obtain ⟨b7, f7, rfl⟩ := s7.slice
 have R7 := Hd r7
 have S7 := Hd s7
 clear r7 s7
 clear kk
 clear c0 c1
 obtain ⟨c0, c1⟩ := HB.out w7 K7.out
 have A1 := Hd (fun w' (kk : Kp w7 w') => IN1.out w' (K7.out.trans kk))
 have A2 := Hd (fun w' (kk : Kp w7 w') => IN2.out w' (K7.out.trans kk))
 have A3 := Hd (fun w' (kk : Kp w7 w') => CHX.out _ w' (LV.out.kp (G4_7.out.trans kk)) (K7.out.trans kk))
 have A4 := Hd (fun w' (kk : Kp w7 w') => CHY.out _ w' (LV5.out.kp (G5_7.out.trans kk)))
 have A5 := Hd (fun w' (kk : Kp w7 w') => CSS.out _ _ w' (R6.out.kp (G6_7.out.trans kk)) (R7.out.kp kk))
 have A6 := Hd (fun w' (kk : Kp w7 w') => CSN.out _ _ w' (S6.out.kp (G6_7.out.trans kk)) (S7.out.kp kk))
 have t1 : (bi == bi) = true := by simp
 have t2 : (hb == hb) = true := by simp
 have t3 : (n == n) = true := by simp
 clear IN1 IN2 CHX CHY CSS CSN LV LV5 R6 R7 S6 S7 C6 C7 LO LO2 N1 N2 AW F1 F2
 by_cases h0 : n = 0
 ·have t4 : (n == 0) = true := by rw [h0]; rfl
  clear h0 DL
  have KS := Hd (fun w' (kq : Kp w7 w') => show w'.cell? ⟨w.heap.size, 0, none⟩ = some (.int .i64 pS) ∧ w'.cell? ⟨w.heap.size, 1, none⟩ = some (.int .i64 pE) ∧ Kp w7 w' from ⟨(HB.out w' (K7.out.trans kq)).1, (HB.out w' (K7.out.trans kq)).2, kq⟩)
  go_wp2_with fail
  refine wp_region_held_drew (S := fun w' => w'.cell? ⟨w.heap.size, 0, none⟩ = some (.int .i64 pS) ∧ w'.cell? ⟨w.heap.size, 1, none⟩ = some (.int .i64 pE) ∧ Kp w7 w') (by kernel_rfl) ?_ (fun hHeld0 => ?_)
  ·(try dsimp only); exact KS.out _ kw
  refine tkv 0 nisA0 ?_
  (try simp only [Act.put, nisA0, xA, xB, xC])
  refine tkv 1 nisA1 ?_
  (try simp only [Act.put, nisA1, xA, xB, xC])
  refine tkv 2 nisA2 ?_
  (try simp only [Act.put, nisA2, xA, xB, xC])
  refine tkv 3 nisA3 ?_
  (try simp only [Act.put, nisA3, xA, xB, xC])
  refine tkv 5 nisA5 ?_
  (try simp only [Act.put, nisA5, xA, xB, xC])
  refine tkv 6 nisA6 ?_
  (try simp only [Act.put, nisA6, xA, xB, xC])
  refine tkE 4 nisA4 rfl (by kernel_rfl) (fun K hK => ?_)
  go_simp
  (refine (A1.out _ kw).mono ?_; rintro e w' ⟨rfl, k1⟩; have k2 := Kp.trans (show Kp w7 _ from kw) k1; clear k1)
  (try go_wp2_with fail)
  refine hK.out _ _ ?_ (fun hHeld1 => ?_)
  ·(try dsimp only); exact KS.out _ kw
  clear hK K hHeld0
  (try simp only [Act.put, nisA4, xA, xB, xC])
  refine tkE 7 nisA7 rfl (by kernel_rfl) (fun K hK => ?_)
  go_simp
  (refine (A2.out _ kw).mono ?_; rintro e w' ⟨rfl, k1⟩; have k2 := Kp.trans (show Kp w7 _ from kw) k1; clear k1)
  (try go_wp2_with fail)
  refine hK.out _ _ ?_ (fun hHeld2 => ?_)
  ·(try dsimp only); exact KS.out _ kw
  clear hK K hHeld1
  (try simp only [Act.put, nisA7, xA, xB, xC])
  refine tkv 8 nisA8 ?_
  (try simp only [Act.put, nisA8, xA, xB, xC])
  refine tkv 9 nisA9 ?_
  (try simp only [Act.put, nisA9, xA, xB, xC])
  refine tkv 10 nisA10 ?_
  (try simp only [Act.put, nisA10, xA, xB, xC])
  refine tkv 11 nisA11 ?_
  (try simp only [Act.put, nisA11, xA, xB, xC])
  refine tkv 12 nisA12 ?_
  (try simp only [Act.put, nisA12, xA, xB, xC])
  refine tkv 13 nisA13 ?_
  (try simp only [Act.put, nisA13, xA, xB, xC])
  refine tkv 14 nisA14 ?_
  (try simp only [Act.put, nisA14, xA, xB, xC])
  refine tkv 15 nisA15 ?_
  (try simp only [Act.put, nisA15, xA, xB, xC])
  refine tkv 16 nisA16 ?_
  (try simp only [Act.put, nisA16, xA, xB, xC])
  refine tkv 17 nisA17 ?_
  (try simp only [Act.put, nisA17, xA, xB, xC])
  refine tkv 18 nisA18 ?_
  (try simp only [Act.put, nisA18, xA, xB, xC])
  refine tkn 19 nisA19 ?_
  (try simp only [Act.put, nisA19, xA, xB, xC])
  refine tkn 20 nisA20 ?_
  (try simp only [Act.put, nisA20, xA, xB, xC])
  refine tkn 21 nisA21 ?_
  (try simp only [Act.put, nisA21, xA, xB, xC])
  refine tkv 22 nisA22 ?_
  (try simp only [Act.put, nisA22, xA, xB, xC])
  refine tkv 23 nisA23 ?_
  (try simp only [Act.put, nisA23, xA, xB, xC])
  refine tkv 24 nisA24 ?_
  (try simp only [Act.put, nisA24, xA, xB, xC])
  refine tkv 25 nisA25 ?_
  (try simp only [Act.put, nisA25, xA, xB, xC])
  refine tkv 26 nisA26 ?_
  (try simp only [Act.put, nisA26, xA, xB, xC])
  refine tkv 28 nisA28 ?_
  (try simp only [Act.put, nisA28, xA, xB, xC])
  refine tkv 29 nisA29 ?_
  (try simp only [Act.put, nisA29, xA, xB, xC])
  refine tkE 27 nisA27 rfl (by kernel_rfl) (fun K hK => ?_)
  go_simp
  (refine (A3.out _ kw).mono ?_; rintro e w' ⟨rfl, k1⟩; have k2 := Kp.trans (show Kp w7 _ from kw) k1; clear k1)
  (try go_wp2_with fail)
  refine hK.out _ _ ?_ (fun hHeld3 => ?_)
  ·(try dsimp only); exact KS.out _ kw
  clear hK K hHeld2
  (try simp only [Act.put, nisA27, xA, xB, xC])
  refine tkE 30 nisA30 rfl (by kernel_rfl) (fun K hK => ?_)
  go_simp
  (refine (A4.out _ kw).mono ?_; rintro e w' ⟨rfl, k1⟩; have k2 := Kp.trans (show Kp w7 _ from kw) k1; clear k1)
  (try go_wp2_with fail)
  refine hK.out _ _ ?_ (fun hHeld4 => ?_)
  ·(try dsimp only); exact KS.out _ kw
  clear hK K hHeld3
  (try simp only [Act.put, nisA30, xA, xB, xC])
  refine tkv 31 nisA31 ?_
  (try simp only [Act.put, nisA31, xA, xB, xC])
  refine tkv 32 nisA32 ?_
  (try simp only [Act.put, nisA32, xA, xB, xC])
  refine tkv 33 nisA33 ?_
  (try simp only [Act.put, nisA33, xA, xB, xC])
  refine tkv 34 nisA34 ?_
  (try simp only [Act.put, nisA34, xA, xB, xC])
  refine tkv 35 nisA35 ?_
  (try simp only [Act.put, nisA35, xA, xB, xC])
  refine tkE 36 nisA36 rfl (by kernel_rfl) (fun K hK => ?_)
  go_simp
  (refine (A5.out _ kw).mono ?_; rintro e w' ⟨rfl, k1⟩; have k2 := Kp.trans (show Kp w7 _ from kw) k1; clear k1)
  (try go_wp2_with fail)
  refine hK.out _ _ ?_ (fun hHeld5 => ?_)
  ·(try dsimp only); exact KS.out _ kw
  clear hK K hHeld4
  (try simp only [Act.put, nisA36, xA, xB, xC])
  refine tkv 37 nisA37 ?_
  (try simp only [Act.put, nisA37, xA, xB, xC])
  refine tkv 38 nisA38 ?_
  (try simp only [Act.put, nisA38, xA, xB, xC])
  refine tkv 39 nisA39 ?_
  (try simp only [Act.put, nisA39, xA, xB, xC])
  refine tkv 40 nisA40 ?_
  (try simp only [Act.put, nisA40, xA, xB, xC])
  refine tkE 41 nisA41 rfl (by kernel_rfl) (fun K hK => ?_)
  go_simp
  (refine (A6.out _ kw).mono ?_; rintro e w' ⟨rfl, k1⟩; have k2 := Kp.trans (show Kp w7 _ from kw) k1; clear k1)
  (try go_wp2_with fail)
  refine hK.out _ _ ?_ (fun hHeld6 => ?_)
  ·(try dsimp only); exact KS.out _ kw
  clear hK K hHeld5
  (try simp only [Act.put, nisA41, xA, xB, xC])
  refine tkv 42 nisA42 ?_
  (try simp only [Act.put, nisA42, xA, xB, xC])
  refine tkv 43 nisA43 ?_
  (try simp only [Act.put, nisA43, xA, xB, xC])
  refine wpAnyH_done (by kernel_rfl) ?_ _
  go_wp2
  go_ret
  exact ⟨rfl, K00.out.trans (K7.out.trans kw)⟩
 ·have t4 : (n == 0) = false := by simp [h0]
  have t5 : ((L.length : Int) == 0) = true := by
   rcases DL.out with q | q
   ·exact absurd q h0
   ·rw [q]; rfl
  clear h0 DL
  have KS := Hd (fun w' (kq : Kp w7 w') => show w'.cell? ⟨w.heap.size, 0, none⟩ = some (.int .i64 pS) ∧ w'.cell? ⟨w.heap.size, 1, none⟩ = some (.int .i64 pE) ∧ Kp w7 w' from ⟨(HB.out w' (K7.out.trans kq)).1, (HB.out w' (K7.out.trans kq)).2, kq⟩)
  go_wp2_with fail
  refine wp_region_held_drew (S := fun w' => w'.cell? ⟨w.heap.size, 0, none⟩ = some (.int .i64 pS) ∧ w'.cell? ⟨w.heap.size, 1, none⟩ = some (.int .i64 pE) ∧ Kp w7 w') (by kernel_rfl) ?_ (fun hHeld0 => ?_)
  ·(try dsimp only); exact KS.out _ kw
  refine tkv 0 nisA0 ?_
  (try simp only [Act.put, nisA0, xA, xB, xC])
  refine tkv 1 nisA1 ?_
  (try simp only [Act.put, nisA1, xA, xB, xC])
  refine tkv 2 nisA2 ?_
  (try simp only [Act.put, nisA2, xA, xB, xC])
  refine tkv 3 nisA3 ?_
  (try simp only [Act.put, nisA3, xA, xB, xC])
  refine tkv 5 nisA5 ?_
  (try simp only [Act.put, nisA5, xA, xB, xC])
  refine tkv 6 nisA6 ?_
  (try simp only [Act.put, nisA6, xA, xB, xC])
  refine tkE 4 nisA4 rfl (by kernel_rfl) (fun K hK => ?_)
  go_simp
  (refine (A1.out _ kw).mono ?_; rintro e w' ⟨rfl, k1⟩; have k2 := Kp.trans (show Kp w7 _ from kw) k1; clear k1)
  (try go_wp2_with fail)
  refine hK.out _ _ ?_ (fun hHeld1 => ?_)
  ·(try dsimp only); exact KS.out _ kw
  clear hK K hHeld0
  (try simp only [Act.put, nisA4, xA, xB, xC])
  refine tkE 7 nisA7 rfl (by kernel_rfl) (fun K hK => ?_)
  go_simp
  (refine (A2.out _ kw).mono ?_; rintro e w' ⟨rfl, k1⟩; have k2 := Kp.trans (show Kp w7 _ from kw) k1; clear k1)
  (try go_wp2_with fail)
  refine hK.out _ _ ?_ (fun hHeld2 => ?_)
  ·(try dsimp only); exact KS.out _ kw
  clear hK K hHeld1
  (try simp only [Act.put, nisA7, xA, xB, xC])
  refine tkv 8 nisA8 ?_
  (try simp only [Act.put, nisA8, xA, xB, xC])
  refine tkv 9 nisA9 ?_
  (try simp only [Act.put, nisA9, xA, xB, xC])
  refine tkv 10 nisA10 ?_
  (try simp only [Act.put, nisA10, xA, xB, xC])
  refine tkv 11 nisA11 ?_
  (try simp only [Act.put, nisA11, xA, xB, xC])
  refine tkv 12 nisA12 ?_
  (try simp only [Act.put, nisA12, xA, xB, xC])
  refine tkv 13 nisA13 ?_
  (try simp only [Act.put, nisA13, xA, xB, xC])
  refine tkv 14 nisA14 ?_
  (try simp only [Act.put, nisA14, xA, xB, xC])
  refine tkv 15 nisA15 ?_
  (try simp only [Act.put, nisA15, xA, xB, xC])
  refine tkv 16 nisA16 ?_
  (try simp only [Act.put, nisA16, xA, xB, xC])
  refine tkv 17 nisA17 ?_
  (try simp only [Act.put, nisA17, xA, xB, xC])
  refine tkv 18 nisA18 ?_
  (try simp only [Act.put, nisA18, xA, xB, xC])
  refine tkv 19 nisA19 ?_
  (try simp only [Act.put, nisA19, xA, xB, xC])
  refine tkv 20 nisA20 ?_
  (try simp only [Act.put, nisA20, xA, xB, xC])
  refine tkv 21 nisA21 ?_
  (try simp only [Act.put, nisA21, xA, xB, xC])
  refine tkv 22 nisA22 ?_
  (try simp only [Act.put, nisA22, xA, xB, xC])
  refine tkv 23 nisA23 ?_
  (try simp only [Act.put, nisA23, xA, xB, xC])
  refine tkv 24 nisA24 ?_
  (try simp only [Act.put, nisA24, xA, xB, xC])
  refine tkv 25 nisA25 ?_
  (try simp only [Act.put, nisA25, xA, xB, xC])
  refine tkv 26 nisA26 ?_
  (try simp only [Act.put, nisA26, xA, xB, xC])
  refine tkv 28 nisA28 ?_
  (try simp only [Act.put, nisA28, xA, xB, xC])
  refine tkv 29 nisA29 ?_
  (try simp only [Act.put, nisA29, xA, xB, xC])
  refine tkE 27 nisA27 rfl (by kernel_rfl) (fun K hK => ?_)
  go_simp
  (refine (A3.out _ kw).mono ?_; rintro e w' ⟨rfl, k1⟩; have k2 := Kp.trans (show Kp w7 _ from kw) k1; clear k1)
  (try go_wp2_with fail)
  refine hK.out _ _ ?_ (fun hHeld3 => ?_)
  ·(try dsimp only); exact KS.out _ kw
  clear hK K hHeld2
  (try simp only [Act.put, nisA27, xA, xB, xC])
  refine tkE 30 nisA30 rfl (by kernel_rfl) (fun K hK => ?_)
  go_simp
  (refine (A4.out _ kw).mono ?_; rintro e w' ⟨rfl, k1⟩; have k2 := Kp.trans (show Kp w7 _ from kw) k1; clear k1)
  (try go_wp2_with fail)
  refine hK.out _ _ ?_ (fun hHeld4 => ?_)
  ·(try dsimp only); exact KS.out _ kw
  clear hK K hHeld3
  (try simp only [Act.put, nisA30, xA, xB, xC])
  refine tkv 31 nisA31 ?_
  (try simp only [Act.put, nisA31, xA, xB, xC])
  refine tkv 32 nisA32 ?_
  (try simp only [Act.put, nisA32, xA, xB, xC])
  refine tkv 33 nisA33 ?_
  (try simp only [Act.put, nisA33, xA, xB, xC])
  refine tkv 34 nisA34 ?_
  (try simp only [Act.put, nisA34, xA, xB, xC])
  refine tkv 35 nisA35 ?_
  (try simp only [Act.put, nisA35, xA, xB, xC])
  refine tkE 36 nisA36 rfl (by kernel_rfl) (fun K hK => ?_)
  go_simp
  (refine (A5.out _ kw).mono ?_; rintro e w' ⟨rfl, k1⟩; have k2 := Kp.trans (show Kp w7 _ from kw) k1; clear k1)
  (try go_wp2_with fail)
  refine hK.out _ _ ?_ (fun hHeld5 => ?_)
  ·(try dsimp only); exact KS.out _ kw
  clear hK K hHeld4
  (try simp only [Act.put, nisA36, xA, xB, xC])
  refine tkv 37 nisA37 ?_
  (try simp only [Act.put, nisA37, xA, xB, xC])
  refine tkv 38 nisA38 ?_
  (try simp only [Act.put, nisA38, xA, xB, xC])
  refine tkv 39 nisA39 ?_
  (try simp only [Act.put, nisA39, xA, xB, xC])
  refine tkv 40 nisA40 ?_
  (try simp only [Act.put, nisA40, xA, xB, xC])
  refine tkE 41 nisA41 rfl (by kernel_rfl) (fun K hK => ?_)
  go_simp
  (refine (A6.out _ kw).mono ?_; rintro e w' ⟨rfl, k1⟩; have k2 := Kp.trans (show Kp w7 _ from kw) k1; clear k1)
  (try go_wp2_with fail)
  refine hK.out _ _ ?_ (fun hHeld6 => ?_)
  ·(try dsimp only); exact KS.out _ kw
  clear hK K hHeld5
  (try simp only [Act.put, nisA41, xA, xB, xC])
  refine tkv 42 nisA42 ?_
  (try simp only [Act.put, nisA42, xA, xB, xC])
  refine tkv 43 nisA43 ?_
  (try simp only [Act.put, nisA43, xA, xB, xC])
  refine wpAnyH_done (by kernel_rfl) ?_ _
  go_wp2
  go_ret
  exact ⟨rfl, K00.out.trans (K7.out.trans kw)⟩
theorem narrowIs_walk (vl : Value) (l : List LF) (vm : Value) (m : List LF) (pS pE : Int) (w : World) (rl : LeavesAt w vl l) (gl : ∀ f ∈ l, LeafG f) (rm : LeavesAt w vm m) (gm : ∀ f ∈ m, LeafG f) (hp1 : -9223372036854775808 ≤ pS) (hp2 : pS ≤ 9223372036854775807) (hp3 : -9223372036854775808 ≤ pE) (hp4 : pE ≤ 9223372036854775807) (T : Tabs w) :
  Calls Tryz.prog 4 #[vl, vm, .agg #[.int .i64 pS, .int .i64 pE]] w fun e w' => e = .returned (.bool true) ∧ Kp w w' := by
 rcases Bool.eq_false_or_eq_true (few22 l) with hf | hf
 ·rcases Bool.eq_false_or_eq_true (few22 m) with hg | hg
  ·exact nis_main vl l vm m pS pE w rl gl rm gm hp1 hp2 hp3 hp4 T hf hg
  ·exact nis_f2 vl l vm m pS pE w rl gl rm gm hp1 hp2 hp3 hp4 T hf hg
 ·exact nis_f1 vl l vm m pS pE w rl gl rm gm hp1 hp2 hp3 hp4 T hf
end Go.Proofs.YtcooaoponkkpeaaGreatDoor
