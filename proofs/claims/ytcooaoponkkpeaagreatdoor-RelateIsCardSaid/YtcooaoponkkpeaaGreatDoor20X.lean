import Derived.Test.YtcooaoponkkpeaaGreatDoor20S
import Derived.Test.YtcooaoponkkpeaaGreatDoor20W
import Derived.Test.YtcooaoponkkpeaaGreatDoorJZ
import Derived.Test.YtcooaoponkkpeaaGreatDoorJRf
import Derived.Test.YtcooaoponkkpeaaGreatDoorJA
set_option maxHeartbeats 16000000
set_option maxRecDepth 100000
namespace Go.Proofs.YtcooaoponkkpeaaGreatDoor
open Go.RowKit Go.Shelf
set_option linter.unusedVariables false
set_option linter.unusedSimpArgs false
def FewP (f : LF) : Prop := (lfOf (famR f)).sp = false → (lfOf (famR f)).u ≠ 0 → (nums (lfOf (famR f)).a).length ≤ 60
theorem fewP_of {f : LF} (h : uniF f ≤ 60) : FewP f := by
 intro hs hu
 have z : lf0.u = 0 := rfl
 rcases Bool.eq_false_or_eq_true (leafB f) with hf | hf
 ·rcases Bool.eq_false_or_eq_true f.sp with hp | hp
  ·by_cases h0 : f.a.length = 0 ∨ f.b.length = 0
   ·rw [famR_none hf hp h0, lfOf_s0 rfl] at hu
    exact absurd z hu
   ·rw [famR_span hf hp h0] at hs hu
    by_cases h1 : (interR f.a [(0, greatR f.b)]).length = 0
    ·rw [lfOf_s0 h1] at hu
     exact absurd z hu
    ·rw [lfOf_s1 h1] at hs
     cases hs
  ·rw [famR_units hf hp] at hs hu ⊢
   by_cases h1 : f.a.length = 0
   ·rw [lfOf_u0 h1] at hu
    exact absurd z hu
   ·rw [lfOf_u1 h1] at hu ⊢
    simp only at hu ⊢
    have sa := (leafB_units hf hp).2.1
    unfold uniF at h
    rw [if_pos ⟨hp, hu⟩, nf_of_sane (setB_sane sa), sum_nums f.a (fun r hr => (sane_ok (setB_sane sa) r hr).1)] at h
    omega
 ·rw [famR_no hf, lfOf_u0 rfl] at hu
  exact absurd z hu
theorem uniP_le : ∀ {l : List LF}, LsOk l → 0 ≤ unitsN l ∧ ∀ f ∈ l, uniF f ≤ unitsN l
 | [], _ => ⟨by simp [unitsN], fun f hf => by cases hf⟩
 | g :: t, h => by
  have h1 := (uniF_bd g (by have := (h g List.mem_cons_self).2.2.1; omega)).1
  have h2 := uniP_le (l := t) (fun f hf => h f (List.mem_cons_of_mem _ hf))
  refine ⟨by unfold unitsN; omega, fun f hf => ?_⟩
  rcases List.mem_cons.1 hf with rfl | hf
  ·unfold unitsN; omega
  ·have := h2.2 f hf
   unfold unitsN; omega
theorem pt_len {f : LF} (h : FewP f) : (ptL f).length ≤ 60 := by
 unfold FewP at h
 unfold ptL
 rcases tidy_cases20 f with ⟨k, s, e, ss⟩ | ⟨s, t, e, m1⟩
 ·rw [e] at h ⊢
  simp only at h
  by_cases h0 : s.length = 0
  ·rw [pt_0 h0]; simp
  ·by_cases k0 : k = 0
   ·subst k0
    rw [pt_d h0]
    simp
   ·rw [pt_u h0 k0, List.length_map]
    exact h trivial k0
 ·rw [e, pt_s m1]
  simp
noncomputable def apN (l : List LF) (k : Nat) : List PD := alL (l.take k)
theorem ap_next {l : List LF} {k : Nat} (h : k < l.length) : apN l (k + 1) = apN l k ++ ptL (lat l k) := by
 unfold apN alL
 rw [take_lat l k h, List.flatMap_append, List.flatMap_cons, List.flatMap_nil, List.append_nil]
theorem ap_all (l : List LF) : apN l l.length = alL l := by unfold apN; rw [List.take_length]
theorem ap_len {l : List LF} (h : ∀ f ∈ l, FewP f) (k : Nat) : (apN l k).length ≤ l.length * 60 := by
 have g : ∀ (m : List LF), (∀ f ∈ m, FewP f) → (alL m).length ≤ m.length * 60 := by
  intro m
  induction m with
  | nil => intro _; simp [alL]
  | cons f t ih =>
   intro hm
   have h1 := pt_len (hm f List.mem_cons_self)
   have h2 := ih (fun x hx => hm x (List.mem_cons_of_mem _ hx))
   unfold alL at h2 ⊢
   rw [List.flatMap_cons, List.length_append, List.length_cons]
   omega
 have h1 := g (l.take k) (fun f hf => h f (List.mem_of_mem_take hf))
 have h2 : (l.take k).length ≤ l.length := List.length_take_le' _ _
 have h3 : (l.take k).length * 60 ≤ l.length * 60 := Nat.mul_le_mul_right _ h2
 unfold apN
 omega
theorem aheadV_next {x y : List (PD × VV)} {i k : Nat} (hi : i < x.length) (hk : k < y.length) (r : Nat) : aheadP (x.map Prod.fst) (y.map Prod.fst) i (k + 1) r ↔ aheadP (x.map Prod.fst) (y.map Prod.fst) i k r ∨ relP (lsQ (x[i]'hi).1) (lsQ (y[k]'hk).1) r := by
 have h := ahead_next (x := x.map Prod.fst) (y := y.map Prod.fst) (i := i) (k := k) (by simpa using hi) (by simpa using hk) r
 rw [h, List.getElem_map, List.getElem_map]
theorem aheadV_row {x y : List (PD × VV)} {i : Nat} (hi : i < x.length) (r : Nat) : aheadP (x.map Prod.fst) (y.map Prod.fst) i y.length r ↔ aheadP (x.map Prod.fst) (y.map Prod.fst) (i + 1) 0 r := by
 have h := ahead_row (x := x.map Prod.fst) (y := y.map Prod.fst) (i := i) (by simpa using hi) r
 rwa [List.length_map] at h
theorem bits_step {n b : Nat} {P Q X : Nat → Prop} (h : bitsP n 0 P) (g : bitsP (n ||| b) n X) (e : ∀ r, Q r ↔ P r ∨ X r) : bitsP (n ||| b) 0 Q := fun r hr => by rw [g r hr, h r hr, e r, or_assoc]
theorem bits_cong {n : Nat} {P Q : Nat → Prop} (h : bitsP n 0 P) (e : ∀ r, P r ↔ Q r) : bitsP n 0 Q := fun r hr => by rw [h r hr, e r]
theorem bits_zero20 {P : Nat → Prop} (h : ∀ r, ¬ P r) : bitsP 0 0 P := fun r hr => by simp [h r]
theorem and_same {M : Nat} (hM : M < 8192) (k : Int) : bits .and .i64 (M : Int) k = (M : Int) ↔ bits .andNot .i64 (M : Int) k = 0 := by
 have tn : (BitVec.ofInt 64 (M : Int)).toNat = M := by
  rw [BitVec.toNat_ofInt]
  omega
 have l1 : (BitVec.ofInt 64 (M : Int) &&& BitVec.ofInt 64 k).toNat < 8192 := by
  rw [BitVec.toNat_and, tn]
  exact Nat.lt_of_le_of_lt Nat.and_le_left hM
 have l2 : (BitVec.ofInt 64 (M : Int) &&& ~~~ BitVec.ofInt 64 k).toNat < 8192 := by
  rw [BitVec.toNat_and, tn]
  exact Nat.lt_of_le_of_lt Nat.and_le_left hM
 have key : (BitVec.ofInt 64 (M : Int) &&& BitVec.ofInt 64 k).toNat = M ↔ (BitVec.ofInt 64 (M : Int) &&& ~~~ BitVec.ofInt 64 k).toNat = 0 := by
  generalize BitVec.ofInt 64 (M : Int) = a at *
  generalize BitVec.ofInt 64 k = b at *
  constructor
  ·intro h
   have e : a &&& b = a := BitVec.eq_of_toNat_eq (by rw [h, tn])
   have e2 : a &&& ~~~ b = 0#64 := by
    apply BitVec.eq_of_getLsbD_eq
    intro j hj
    have := congrArg (fun x => x.getLsbD j) e
    simp only [BitVec.getLsbD_and] at this
    simp only [BitVec.getLsbD_and, BitVec.getLsbD_not, BitVec.getLsbD_zero, hj, decide_true, Bool.true_and]
    revert this
    cases a.getLsbD j <;> cases b.getLsbD j <;> simp
   rw [e2]
   rfl
  ·intro h
   have e2 : a &&& ~~~ b = 0#64 := BitVec.eq_of_toNat_eq (by rw [h]; rfl)
   have e : a &&& b = a := by
    apply BitVec.eq_of_getLsbD_eq
    intro j hj
    have := congrArg (fun x => x.getLsbD j) e2
    simp only [BitVec.getLsbD_and, BitVec.getLsbD_not, BitVec.getLsbD_zero, hj, decide_true, Bool.true_and] at this
    simp only [BitVec.getLsbD_and]
    revert this
    cases a.getLsbD j <;> cases b.getLsbD j <;> simp
   rw [e, tn]
 show IntKind.i64.wrap ((BitVec.ofInt 64 (M : Int) &&& BitVec.ofInt 64 k).toNat : Nat) = (M : Int) ↔ IntKind.i64.wrap ((BitVec.ofInt 64 (M : Int) &&& ~~~ BitVec.ofInt 64 k).toNat : Nat) = 0
 generalize (BitVec.ofInt 64 (M : Int) &&& BitVec.ofInt 64 k).toNat = x at *
 generalize (BitVec.ofInt 64 (M : Int) &&& ~~~ BitVec.ofInt 64 k).toNat = y at *
 rw [IntKind.wrap_i64, IntKind.wrap_i64]
 omega
theorem refHas_out (m r : Int) (w : World) (h : r < 0 ∨ 12 < r) :
  Calls Tryz.prog 32 #[.int .i64 m, .int .i64 r] w fun e w' => e = .returned (.bool false) ∧ w = w' := by
 by_cases h0 : r < 0
 ·have t0 : decide (r ≥ 0) = false := dF
  have t1 : decide ((0 : Int) ≤ r) = false := dF
  clear h h0
  go_enter Tryz.func32, Tryz.ntmps32
  go_wp2
  go_ret
  exact ⟨rfl, rfl⟩
 ·have t0 : decide (r ≥ 0) = true := dT
  have t1 : decide ((0 : Int) ≤ r) = true := dT
  have t2 : decide (r ≤ 12) = false := dF
  clear h h0
  go_enter Tryz.func32, Tryz.ntmps32
  go_wp2
  go_ret
  exact ⟨rfl, rfl⟩
noncomputable def okE1 (f : LF) : Bool := startsB (famR f) && endsB (famR f)
theorem okV_yes {l : List LF} (h : ∀ i, i < l.length → okE1 (lat l i) = true) : okAll l = true := by
 unfold okAll
 rw [List.all_eq_true]
 intro f hf
 obtain ⟨i, hi, rfl⟩ := List.mem_iff_getElem.1 hf
 have := h i hi
 unfold lat at this
 rw [List.getD_eq_getElem?_getD, List.getElem?_eq_getElem hi] at this
 exact this
theorem okV_no {l : List LF} {k : Nat} (hk : k < l.length) (h : okE1 (lat l k) = false) : okAll l = false := by
 unfold okAll
 rw [List.all_eq_false]
 exact ⟨_, lat_mem hk, by unfold okE1 at h; rw [h]; simp⟩
theorem rWideP_any (v : Value) (l : List LF) (w : World) (hv : LeavesAt w v l) (hl : LsOk l) :
  Calls Tryz.prog 28 #[v] w fun e w' => e = .returned (.bool (!okAll l)) ∧ Kp w w' := by
 have hm := hv.len
 unfold maxLen at hm
 obtain ⟨ad, cp, rfl⟩ := hv.slice
 have HV := Hd hv
 have HL := Hd hl
 have YES := Hd (fun h => okV_yes (l := l) h)
 have NO := Hd (fun k (h : k < l.length) g => okV_no (l := l) h g)
 clear hv hl
 generalize okAll l = r at *
 go_enter Tryz.func28, Tryz.ntmps28
 go_wp2
 go_loopw [3] (fun i wr => ∃ k : Nat, k ≤ l.length ∧ i = .int .i64 k ∧ Hid (∀ i, i < k → okE1 (lat l i) = true) ∧ Hid (Kp w wr)) (fun i _ => l.length - (intOf i).toNat)
 case atStart => exact ⟨0, Nat.zero_le _, rfl, Hd (fun i h => by omega), Hd (Kp.refl _)⟩
 case round =>
  obtain ⟨k, hk, rfl, FA, J⟩ := hrel
  obtain ⟨wx, hwx⟩ : ∃ x, x = wr := ⟨_, rfl⟩
  subst hwx
  by_cases hlt : k < l.length
  ·have q1 : decide ((k : Int) < (l.length : Int)) = true := dT
   rcases HV.out.kp J.out with ⟨_, _, _, e⟩ | ⟨b0, off, cap, ev, hc, hmx, hx⟩
   ·rw [e] at hlt; simp at hlt
   cases ev
   obtain ⟨va, vb, d0, d1, d2, d3, ra, rb⟩ := hx k hlt
   have LOK := HL.out _ (lat_mem hlt)
   obtain ⟨f, hf⟩ : ∃ f, lat l k = f := ⟨_, rfl⟩
   rw [hf] at d0 d1 ra rb
   (try rw [hf] at LOK)
   obtain ⟨sp, u, a, b⟩ := f
   simp only at d0 d1 ra rb
   (try simp only at LOK)
   obtain ⟨aa, ca, rfl⟩ := ra.slice
   obtain ⟨ab, cb, rfl⟩ := rb.slice
   have HF := Hd hf
   have z1 : (k : Int) < (l.length : Int) := by omega
   have z2 : (0 : Int) ≤ (k : Int) := by omega
   clear hx hc hmx hf
   have FO : LeafOk wx ⟨sp, u, a, b⟩ _ _ := ⟨ra, rb, LOK.1, LOK.2.1, LOK.2.2.1, LOK.2.2.2⟩
   have CS := Hd (fun w1 (kk : Kp wx w1) => refLStarts_any ⟨sp, u, a, b⟩ _ _ w1 (FO.kp kk))
   have CE := Hd (fun w1 (kk : Kp wx w1) => refLEnds_any ⟨sp, u, a, b⟩ _ _ w1 (FO.kp kk))
   simp only [leafV] at CS CE
   have N := Hd (fun (g : (startsB (famR ⟨sp, u, a, b⟩) && endsB (famR ⟨sp, u, a, b⟩)) = false) => NO.out k hlt (show okE1 (lat l k) = false by rw [HF.out]; exact g))
   have Y := Hd (fun (g : (startsB (famR ⟨sp, u, a, b⟩) && endsB (famR ⟨sp, u, a, b⟩)) = true) => (by rw [HF.out]; exact g : okE1 (lat l k) = true))
   generalize startsB (famR ⟨sp, u, a, b⟩) = p1 at *
   generalize endsB (famR ⟨sp, u, a, b⟩) = p2 at *
   generalize startsR (famR ⟨sp, u, a, b⟩) = E1 at *
   generalize endsR (famR ⟨sp, u, a, b⟩) = E2 at *
   have DD := Hd (fun w' (kq : Kp wx w') => (show w'.cell? ⟨b0, off + k * 4, none⟩ = some (.bool sp) ∧ w'.cell? ⟨b0, off + k * 4 + 1, none⟩ = some (.int .i64 u) ∧ w'.cell? ⟨b0, off + k * 4 + 2, none⟩ = some (.slice aa a.length ca) ∧ w'.cell? ⟨b0, off + k * 4 + 3, none⟩ = some (.slice ab b.length cb) from ⟨cell_up kq d0, cell_up kq d1, cell_up kq d2, cell_up kq d3⟩))
   have k00 : Kp wx wx := Kp.refl _
   clear ra rb YES FO
   go_wp2_with fail
   refine (CS.out _ k00).mono ?_
   rintro e w1 ⟨v1, rfl, r1, kk⟩
   have K1 := Hd kk
   obtain ⟨a1, c1, rfl⟩ := r1.slice
   clear kk r1 d0 d1 d2 d3
   obtain ⟨d0, d1, d2, d3⟩ := DD.out w1 K1.out
   go_wp2_with fail
   refine (CE.out _ (ky K1.out)).mono ?_
   rintro e w2 ⟨v2, rfl, r2, kk⟩
   have K2 := Hd ((show Kp wx _ from (ky K1.out)).trans kk)
   obtain ⟨a2, c2, rfl⟩ := r2.slice
   clear kk r2 d0 d1 d2 d3
   cases p1 with
   | false =>
    have hr := N.out (by first | rfl | trivial | simp)
    subst hr
    go_wp2
    go_ret
    exact ⟨rfl, J.out.trans K2.out⟩
   | true =>
    cases p2 with
    | false =>
     have hr := N.out (by first | rfl | trivial | simp)
     subst hr
     go_wp2
     go_ret
     exact ⟨rfl, J.out.trans K2.out⟩
    | true =>
     go_wp2
     go_roundw
     case rel => exact ⟨k + 1, by omega, by go_num, Hd (fun i hi => by
      by_cases c : i < k
      ·exact FA.out i c
      ·obtain rfl : i = k := by omega
       exact Y.out (by first | rfl | trivial | simp)), Hd (J.out.trans K2.out)⟩
     case measure => simp [intOf]; omega
  ·have q1 : decide ((k : Int) < (l.length : Int)) = false := dF
   obtain rfl : k = l.length := by omega
   have hr := YES.out FA.out
   subst hr
   go_wp2
   go_ret
   exact ⟨rfl, J.out⟩
theorem rall_any (v : Value) (l : List LF) (w : World) (hv : LeavesAt w v l) (hl : LsOk l) (nl : l.length ≤ 100) (fu : ∀ f ∈ l, FewP f) :
  Calls Tryz.prog 29 #[v] w fun e w' => ∃ v' x, e = .returned v' ∧ (x.map Prod.fst = alL l ∧ ReadsP w w' x ∧ w'.ownsRow w.heap.size 57 3 v' x.length (cellsP x)) ∧ Kp w w' := by
 have hml := hv.len
 unfold maxLen at hml
 obtain ⟨ad, cp, rfl⟩ := hv.slice
 obtain ⟨i0, hi, hz0, hz1, hz2⟩ := info_parts infoPart
 have PN := Hd (fun k (h : k < l.length) => ap_next h)
 have PB := Hd (ap_len fu)
 have P0 := Hd (show apN l 0 = [] from rfl)
 have PA := Hd (ap_all l)
 have PO := Hd (fun f (hf : f ∈ l) => pt_len (fu f hf))
 have CO := Hd (fun (f : LF) (hf : f ∈ l) va vb w2 (kk : Kp w w2) (lk : LeafOk w f va vb) => rparts_any f va vb w w2 lk kk (fun a b => Nat.le_trans (fu f hf a b) (by decide)))
 have HV := Hd hv
 have HL := Hd hl
 generalize apN l = PX at *
 generalize alL l = X at *
 clear hv hl fu
 go_enter Tryz.func29, Tryz.ntmps29
 go_wp2
 go_loopw [3, 4] (fun v i wr => ∃ (k : Nat) (x : List (PD × VV)), k ≤ l.length ∧ i = .int .i64 k ∧ Hid (x.map Prod.fst = PX k) ∧ Hid (ReadsP w wr x) ∧ Hid (wr.ownsRow w.heap.size 57 3 v x.length (cellsP x)) ∧ Hid (Kp w wr)) (fun _ i _ => l.length - (intOf i).toNat)
 case atStart => exact ⟨0, [], Nat.zero_le _, rfl, Hd (by rw [P0.out]; rfl), Hd (fun p hp => by cases hp), Hd (World.ownsRow_nil _ _ _ _), Hd (Kp.refl _)⟩
 case round =>
  obtain ⟨k, x, hk, rfl, HM, OV, OW, J⟩ := hrel
  have ow := OW.out
  obtain ⟨a5, l5, rfl⟩ := own_slice3 ow
  clear ow
  have xl : x.length = (PX k).length := by have := congrArg List.length HM.out; rwa [List.length_map] at this
  by_cases hlt : k < l.length
  ·have q1 : decide ((k : Int) < (l.length : Int)) = true := dT
   have pn := PN.out k hlt
   have pb := PB.out k
   have fm := lat_mem hlt
   rcases HV.out.kp (Kp.refl w) with ⟨_, _, _, e⟩ | ⟨b0, off, cap, ev, hc, hmx, hx⟩
   ·rw [e] at hlt; simp at hlt
   cases ev
   obtain ⟨va, vb, d0, d1, d2, d3, ra, rb⟩ := hx k hlt
   have LOK := HL.out _ (lat_mem hlt)
   obtain ⟨f, hf⟩ : ∃ f, lat l k = f := ⟨_, rfl⟩
   rw [hf] at d0 d1 ra rb
   (try rw [hf] at LOK)
   obtain ⟨sp, u, a, b⟩ := f
   simp only at d0 d1 ra rb
   (try simp only at LOK)
   obtain ⟨aa, ca, rfl⟩ := ra.slice
   obtain ⟨ab, cb, rfl⟩ := rb.slice
   have HF := Hd hf
   have z1 : (k : Int) < (l.length : Int) := by omega
   have z2 : (0 : Int) ≤ (k : Int) := by omega
   clear hx hc hmx hf
   have d0 := cell_up J.out d0
   have d1 := cell_up J.out d1
   have d2 := cell_up J.out d2
   have d3 := cell_up J.out d3
   rw [HF.out] at pn fm
   have po := PO.out _ fm
   have FO : LeafOk w ⟨sp, u, a, b⟩ _ _ := ⟨ra, rb, LOK.1, LOK.2.1, LOK.2.2.1, LOK.2.2.2⟩
   have CC := Hd (CO.out _ fm _ _ wr J.out FO)
   simp only [leafV] at CC
   generalize ptL ⟨sp, u, a, b⟩ = WX at *
   have PNH := Hd pn
   have xb : x.length ≤ 6000 := by omega
   clear ra rb FO LOK HF pn fm xl
   go_wp2_with fail
   refine CC.out.mono ?_
   rintro e w4 ⟨v6, m6, rfl, hm6, rv6, ow6, kk⟩
   obtain ⟨a6, l6, rfl⟩ := own_slice3 ow6
   have m6b : m6.length ≤ 60 := by have := congrArg List.length hm6; rw [List.length_map] at this; omega
   have OL := Hd ow6
   have OM := Hd rv6
   have Q4 := Hd (own_kp OW.out kk)
   have QV4 := Hd (OV.out.kp kk)
   have K4 := Hd (J.out.trans kk)
   have HM6 := Hd hm6
   clear kk CC ow6 rv6 hm6
   go_wp2_with (at_builtin; refine wpList_app rfl (.tmp 11) (.tmp 16) 53 rfl w.heap.size 57 i0 (.agg #[.bool false, .slice none 0 0, .slice none 0 0]) 3 56 Tryz.underlying53 hi hz0 hz1 hz2 rfl (by decide) _ x.length (cellsP x) rfl Q4.out _ m6.length (cellsP m6) rfl (own_srcP OL.out) (cellsP_length _) (cellsP_one OM.out) (by unfold maxLen; omega) (by omega) K4.out.size ?_; intro v5 w5 own5 grow5 _; have K5 := Hd (K4.out.grown grow5 (fun j hj => (Q4.out.lt j hj).1)); have O5 := Hd own5; have V5 := Hd ((QV4.out.append OM.out).grown grow5 Q4.out); clear own5 grow5)
   have O6 := Hd (show w5.ownsRow w.heap.size 57 3 v5 (x ++ m6).length (cellsP (x ++ m6)) by rw [List.length_append, cellsP_append]; exact O5.out)
   have HN6 := Hd (show (x ++ m6).map Prod.fst = PX (k + 1) by rw [List.map_append, HM.out, HM6.out, PNH.out])
   go_wp2
   go_roundw
   case rel => exact ⟨k + 1, x ++ m6, by omega, by go_num, HN6, V5, O6, K5⟩
   case measure => simp [intOf]; omega
  ·have q1 : decide ((k : Int) < (l.length : Int)) = false := dF
   obtain rfl : k = l.length := by omega
   have HE := Hd (show x.map Prod.fst = X by rw [HM.out, PA.out])
   clear xl
   go_wp2
   go_ret
   exact ⟨_, x, rfl, ⟨HE.out, OV.out, OW.out⟩, J.out⟩
abbrev rlq0 : Oper := ⟨some 33, .move (.tmp 8), 3, "ref.go:163", #[], none⟩
abbrev rlq1 : Oper := ⟨some 34, .move (.tmp 6), 53, "ref.go:163", #[], none⟩
abbrev rlq2 : Oper := ⟨some 35, .move (.tmp 9), 3, "ref.go:163", #[], none⟩
abbrev rlq3 : Oper := ⟨some 36, .indexAddr 53 (.tmp 34) (.tmp 35), 0, "ref.go:163", #[⟨1, .data⟩, ⟨2, .data⟩], none⟩
abbrev rlq4 : Oper := ⟨some 37, .load 57 (.tmp 36), 57, "ref.go:163", #[⟨3, .data⟩], none⟩
abbrev rlq5 : Oper := ⟨some 38, .move (.tmp 7), 53, "ref.go:163", #[], none⟩
abbrev rlq6 : Oper := ⟨some 39, .move (.tmp 10), 3, "ref.go:163", #[], none⟩
abbrev rlq7 : Oper := ⟨some 40, .indexAddr 53 (.tmp 38) (.tmp 39), 0, "ref.go:163", #[⟨5, .data⟩, ⟨6, .data⟩], none⟩
abbrev rlq8 : Oper := ⟨some 41, .load 57 (.tmp 40), 57, "ref.go:163", #[⟨7, .data⟩], none⟩
abbrev rlq9 : Oper := ⟨some 42, .call ⟨.value (.func 30), #[.tmp 37, .tmp 41], #[57, 57]⟩, 3, "ref.go:163", #[⟨4, .data⟩, ⟨8, .data⟩], none⟩
abbrev rlq10 : Oper := ⟨some 43, .binOp .or 3 (.tmp 33) (.tmp 42) 3, 3, "ref.go:163", #[⟨0, .data⟩, ⟨9, .data⟩], none⟩
abbrev rlq11 : Oper := ⟨some 8, .assign (.tmp 43), 3, "ref.go:163", #[⟨10, .data⟩, ⟨9, .chain⟩, ⟨0, .phase⟩, ⟨1, .phase⟩, ⟨2, .phase⟩, ⟨3, .phase⟩, ⟨4, .phase⟩, ⟨5, .phase⟩, ⟨6, .phase⟩, ⟨7, .phase⟩, ⟨8, .phase⟩, ⟨9, .phase⟩, ⟨10, .phase⟩], none⟩
theorem rrel_a (vl vm : Value) (l m : List LF) (w : World) (hv : LeavesAt w vl l) (hu : LeavesAt w vm m) (hl : LsOk l) (hm : LsOk m) (h1 : okAll l = false) :
  Calls Tryz.prog 8 #[vl, vm] w fun e w' => e = .returned (.tuple #[.int .i64 ((relM l m : Nat) : Int), .int .i64 (relE l m)]) ∧ Kp w w' := by
 have CA := Hd (fun w1 (kk : Kp w w1) => rWideP_any vl l w1 (hv.kp kk) hl)
 have CB := Hd (fun w1 (kk : Kp w w1) => rWideP_any vm m w1 (hu.kp kk) hm)
 obtain ⟨ad, cp, rfl⟩ := hv.slice
 obtain ⟨ae, cq, rfl⟩ := hu.slice
 rw [h1] at CA
 have e1 : relM l m = 0 := if_neg (by unfold relOk; rw [h1]; simp)
 have e2 : relE l m = 8 := if_neg (by unfold relOk; rw [h1]; simp)
 rw [e1, e2]
 clear hv hu hl hm h1 CB e1 e2
 go_enter Tryz.func8, Tryz.ntmps8
 go_wp2_with fail
 refine (CA.out _ (Kp.refl _)).mono ?_
 rintro e w1 ⟨rfl, kk⟩
 have K1 := Hd kk
 clear kk
 go_wp2
 go_ret2
 exact ⟨rfl, K1.out⟩
theorem rrel_b (vl vm : Value) (l m : List LF) (w : World) (hv : LeavesAt w vl l) (hu : LeavesAt w vm m) (hl : LsOk l) (hm : LsOk m) (h1 : okAll l = true) (h2 : okAll m = false) :
  Calls Tryz.prog 8 #[vl, vm] w fun e w' => e = .returned (.tuple #[.int .i64 ((relM l m : Nat) : Int), .int .i64 (relE l m)]) ∧ Kp w w' := by
 have CA := Hd (fun w1 (kk : Kp w w1) => rWideP_any vl l w1 (hv.kp kk) hl)
 have CB := Hd (fun w1 (kk : Kp w w1) => rWideP_any vm m w1 (hu.kp kk) hm)
 obtain ⟨ad, cp, rfl⟩ := hv.slice
 obtain ⟨ae, cq, rfl⟩ := hu.slice
 rw [h1] at CA
 rw [h2] at CB
 have e1 : relM l m = 0 := if_neg (by unfold relOk; rw [h2]; simp)
 have e2 : relE l m = 8 := if_neg (by unfold relOk; rw [h2]; simp)
 rw [e1, e2]
 clear hv hu hl hm h1 h2 e1 e2
 go_enter Tryz.func8, Tryz.ntmps8
 go_wp2_with fail
 refine (CA.out _ (Kp.refl _)).mono ?_
 rintro e w1 ⟨rfl, kk⟩
 have K1 := Hd kk
 clear kk
 go_wp2_with fail
 refine (CB.out _ K1.out).mono ?_
 rintro e w2 ⟨rfl, kk⟩
 have K2 := Hd (K1.out.trans kk)
 clear kk
 go_wp2
 go_ret2
 exact ⟨rfl, K2.out⟩
theorem rrel_c (vl vm : Value) (l m : List LF) (w : World) (hv : LeavesAt w vl l) (hu : LeavesAt w vm m) (hl : LsOk l) (hm : LsOk m) (nl : l.length ≤ 100) (nm : m.length ≤ 100) (fl : ∀ f ∈ l, FewP f) (fm : ∀ f ∈ m, FewP f) (h1 : okAll l = true) (h2 : okAll m = true) :
  Calls Tryz.prog 8 #[vl, vm] w fun e w' => e = .returned (.tuple #[.int .i64 ((relM l m : Nat) : Int), .int .i64 (relE l m)]) ∧ Kp w w' := by
 have CA := Hd (fun w1 (kk : Kp w w1) => rWideP_any vl l w1 (hv.kp kk) hl)
 have CB := Hd (fun w1 (kk : Kp w w1) => rWideP_any vm m w1 (hu.kp kk) hm)
 obtain ⟨ad, cp, rfl⟩ := hv.slice
 obtain ⟨ae, cq, rfl⟩ := hu.slice
 rw [h1] at CA
 rw [h2] at CB
 have e1 : relM l m = bitsN (relP (hasP l) (hasP m)) := if_pos (by unfold relOk; rw [h1, h2]; rfl)
 have e2 : relE l m = 0 := if_pos (by unfold relOk; rw [h1, h2]; rfl)
 rw [e2]
 have FIN := Hd (fun (n : Nat) (lt : n < 8192) h => (bits_done hl hm (n := n) lt h).trans e1.symm)
 have AX := Hd (fun w1 (kk : Kp w w1) => rall_any _ l w1 (hv.kp kk) hl nl fl)
 have AY := Hd (fun w1 (kk : Kp w w1) => rall_any _ m w1 (hu.kp kk) hm nm fm)
 have OX := Hd (al_ok hl)
 have OY := Hd (al_ok hm)
 have BX := ap_len fl l.length
 have BY := ap_len fm m.length
 rw [ap_all] at BX BY
 generalize relM l m = M at *
 clear hv hu hl hm h1 h2 fl fm e1 e2
 go_enter Tryz.func8, Tryz.ntmps8
 go_wp2_with fail
 refine (CA.out _ (Kp.refl _)).mono ?_
 rintro e w1 ⟨rfl, kk⟩
 have K1 := Hd kk
 clear kk
 go_wp2_with fail
 refine (CB.out _ K1.out).mono ?_
 rintro e w2 ⟨rfl, kk⟩
 have K2 := Hd (K1.out.trans kk)
 clear kk
 go_wp2_with fail
 refine (AX.out _ K2.out).mono ?_
 rintro e w3 ⟨v3, x, rfl, ⟨hx, rx, ox⟩, kk⟩
 obtain ⟨ax, cx, rfl⟩ := own_slice3 ox
 have K3 := Hd (K2.out.trans kk)
 have hx0 := Hd kk
 have xl : x.length ≤ 6000 := by have := congrArg List.length hx; rw [List.length_map] at this; omega
 have RX := Hd rx
 have PX := Hd ox
 have HX := Hd hx
 clear kk rx ox hx
 go_wp2_with fail
 refine (AY.out _ K3.out).mono ?_
 rintro e w4 ⟨v4, y, rfl, ⟨hy, ry, oy⟩, kk⟩
 obtain ⟨ay, cy, rfl⟩ := own_slice3 oy
 have K4 := Hd (K3.out.trans kk)
 have yl : y.length ≤ 6000 := by have := congrArg List.length hy; rw [List.length_map] at this; omega
 have RX4 := Hd (fun p (hp : p ∈ x) => (show RunsAt w4 p.2.1 p.1.A ∧ RunsAt w4 p.2.2 p.1.B from ⟨((RX.out p hp).1.runs hx0.out).kp kk, ((RX.out p hp).2.runs hx0.out).kp kk⟩))
 have RY4 := Hd (fun p (hp : p ∈ y) => (show RunsAt w4 p.2.1 p.1.A ∧ RunsAt w4 p.2.2 p.1.B from ⟨(ry p hp).1.runs kk, (ry p hp).2.runs kk⟩))
 have PX4 := Hd (own_kp PX.out kk)
 have PY4 := Hd oy
 have HY := Hd hy
 have OKX := Hd (fun p (hp : p ∈ x) => OX.out p.1 (by rw [← HX.out]; exact List.mem_map.2 ⟨p, hp, rfl⟩))
 have OKY := Hd (fun p (hp : p ∈ y) => OY.out p.1 (by rw [← HY.out]; exact List.mem_map.2 ⟨p, hp, rfl⟩))
 have FN := Hd (fun (n : Nat) (lt : n < 8192) (h : bitsP n 0 (aheadP (x.map Prod.fst) (y.map Prod.fst) x.length 0)) => FIN.out n lt (by rw [← HX.out, ← HY.out, List.length_map]; exact h))
 clear kk ry oy hy RX PX hx0 HX HY OX OY FIN AX AY CA CB
 go_wp2
 go_loopw [8, 9] (fun mk iv wr => ∃ (i n : Nat), i ≤ x.length ∧ iv = .int .i64 i ∧ mk = .int .i64 (n : Int) ∧ n < 8192 ∧ Hid (bitsP n 0 (aheadP (x.map Prod.fst) (y.map Prod.fst) i 0)) ∧ Hid (Kp w4 wr)) (fun _ iv _ => x.length - (intOf iv).toNat)
 case atStart => exact ⟨0, 0, Nat.zero_le _, rfl, rfl, by decide, Hd (bits_zero20 (ahead_zero _ _)), Hd (Kp.refl _)⟩
 case round =>
  obtain ⟨i, n0, hi2, rfl, rfl, ltm, BM, J⟩ := hrel
  by_cases hlt : i < x.length
  ·have q1 : decide ((i : Int) < (x.length : Int)) = true := dT
   have HLT := Hd hlt
   obtain ⟨Bx, cx', evx, hcx⟩ := own_part PX4.out rfl (by omega)
   cases evx
   obtain ⟨c0, c1, c2⟩ := hcx i hlt
   have rr := RX4.out _ (List.getElem_mem hlt)
   have okx := OKX.out _ (List.getElem_mem hlt)
   have an := fun k (h : k < y.length) r => aheadV_next (x := x) (y := y) hlt h r
   have ar := fun r => aheadV_row (x := x) (y := y) hlt r
   obtain ⟨⟨⟨d, A, B⟩, ⟨va1, vb1⟩⟩, hp⟩ : ∃ q, x[i]'hlt = q := ⟨_, rfl⟩
   rw [hp] at c0 c1 c2 rr okx
   simp only [hp] at an
   simp only at c0 c1 c2 rr okx an
   obtain ⟨aa, ca, rfl⟩ := rr.1.slice
   obtain ⟨ab, cb, rfl⟩ := rr.2.slice
   have RR := Hd rr
   have CXH := Hd (fun w' (kq : Kp w4 w') => (show w'.cell? ⟨Bx, i * 3, none⟩ = some (.bool d) ∧ w'.cell? ⟨Bx, i * 3 + 1, none⟩ = some (.slice aa A.length ca) ∧ w'.cell? ⟨Bx, i * 3 + 2, none⟩ = some (.slice ab B.length cb) from ⟨cell_up kq c0, cell_up kq c1, cell_up kq c2⟩))
   have AN := Hd an
   have AR := Hd ar
   have OKXH := Hd okx
   have z1 : (0 : Int) ≤ (i : Int) := by omega
   have z3 : (i : Int) < (x.length : Int) := by omega
   clear hp c0 c1 c2 rr okx an ar hcx
   go_wp2
   go_loopw [8, 10] (fun mk kv wr => ∃ (k n : Nat), k ≤ y.length ∧ kv = .int .i64 k ∧ mk = .int .i64 (n : Int) ∧ n < 8192 ∧ Hid (bitsP n 0 (aheadP (x.map Prod.fst) (y.map Prod.fst) i k)) ∧ Hid (Kp w4 wr)) (fun _ kv _ => y.length - (intOf kv).toNat)
   case atStart => exact ⟨0, n0, Nat.zero_le _, rfl, rfl, ltm, BM, J⟩
   case round =>
    obtain ⟨k, n, hk2, rfl, rfl, ltn0, BN0, J2⟩ := hrel
    by_cases hlk : k < y.length
    ·have q2 : decide ((k : Int) < (y.length : Int)) = true := dT
     obtain ⟨By, cy', evy, hcy⟩ := own_part PY4.out rfl (by omega)
     cases evy
     obtain ⟨c3, c4, c5⟩ := hcy k hlk
     have ry := RY4.out _ (List.getElem_mem hlk)
     have oky := OKY.out _ (List.getElem_mem hlk)
     have an := AN.out k hlk
     obtain ⟨⟨⟨d', C, D⟩, ⟨vc1, vd1⟩⟩, hp⟩ : ∃ q, y[k]'hlk = q := ⟨_, rfl⟩
     rw [hp] at c3 c4 c5 ry oky
     simp only [hp] at an
     simp only at c3 c4 c5 ry oky an
     obtain ⟨ac, cc, rfl⟩ := ry.1.slice
     obtain ⟨ad', cd, rfl⟩ := ry.2.slice
     have okx := OKXH.out
     have CC := Hd (fun w1 (kk : Kp wr w1) => qboth_any (d := d) (d' := d') (A := A) (B := B) (C := C) (D := D) _ _ _ _ w1 (RR.out.1.kp (J2.out.trans kk)) (RR.out.2.kp (J2.out.trans kk)) (ry.1.kp (J2.out.trans kk)) (ry.2.kp (J2.out.trans kk)) okx.ok oky.ok okx.na okx.nb oky.na oky.nb)
     have BN := Hd (bits_step BN0.out (both_bits okx.ok oky.ok n) an)
     have ltb := boM_lt d d' A B C D
     have OR := ak_or ltn0 ltb
     have ltn := bt_orlt ltn0 ltb
     generalize boM d d' A B C D = bm at *
     have c3 := cell_up J2.out c3
     have c4 := cell_up J2.out c4
     have c5 := cell_up J2.out c5
     obtain ⟨c0, c1, c2⟩ := CXH.out wr J2.out
     have kkwr : Kp wr wr := Kp.refl _
     have KSz := Hd (fun w' (kq : Kp wr w') => show w'.cell? ⟨Bx, i * 3, none⟩ = some (.bool d) ∧ w'.cell? ⟨Bx, i * 3 + 1, none⟩ = some (.slice aa A.length ca) ∧ w'.cell? ⟨Bx, i * 3 + 2, none⟩ = some (.slice ab B.length cb) ∧ w'.cell? ⟨By, k * 3, none⟩ = some (.bool d') ∧ w'.cell? ⟨By, k * 3 + 1, none⟩ = some (.slice ac C.length cc) ∧ w'.cell? ⟨By, k * 3 + 2, none⟩ = some (.slice ad' D.length cd) ∧ Kp wr w' from ⟨cell_up kq c0, cell_up kq c1, cell_up kq c2, cell_up kq c3, cell_up kq c4, cell_up kq c5, kq⟩)
     have y1 : (0 : Int) ≤ (k : Int) := by omega
     have y3 : (k : Int) < (y.length : Int) := by omega
     clear hp ry oky an okx hcy ltb BN0
     go_upto_region 12 with fail
     refine wp_region_held_drew (S := fun w' => w'.cell? ⟨Bx, i * 3, none⟩ = some (.bool d) ∧ w'.cell? ⟨Bx, i * 3 + 1, none⟩ = some (.slice aa A.length ca) ∧ w'.cell? ⟨Bx, i * 3 + 2, none⟩ = some (.slice ab B.length cb) ∧ w'.cell? ⟨By, k * 3, none⟩ = some (.bool d') ∧ w'.cell? ⟨By, k * 3 + 1, none⟩ = some (.slice ac C.length cc) ∧ w'.cell? ⟨By, k * 3 + 2, none⟩ = some (.slice ad' D.length cd) ∧ Kp wr w') (by kernel_rfl) ?_ (fun hHeld0 => ?_)
     ·(try dsimp only); exact KSz.out _ (ky kkwr)
     refine tkv 0 rlq0 ?_
     (try simp only [Act.put, rlq0, xA, xB, xC])
     refine tkv 1 rlq1 ?_
     (try simp only [Act.put, rlq1, xA, xB, xC])
     refine tkv 2 rlq2 ?_
     (try simp only [Act.put, rlq2, xA, xB, xC])
     refine tkv 3 rlq3 ?_
     (try simp only [Act.put, rlq3, xA, xB, xC])
     refine tkv 4 rlq4 ?_
     (try simp only [Act.put, rlq4, xA, xB, xC])
     refine tkv 5 rlq5 ?_
     (try simp only [Act.put, rlq5, xA, xB, xC])
     refine tkv 6 rlq6 ?_
     (try simp only [Act.put, rlq6, xA, xB, xC])
     refine tkv 7 rlq7 ?_
     (try simp only [Act.put, rlq7, xA, xB, xC])
     refine tkv 8 rlq8 ?_
     (try simp only [Act.put, rlq8, xA, xB, xC])
     refine tkE 9 rlq9 rfl (by kernel_rfl) (fun K hK => ?_)
     go_simp
     (refine (CC.out _ (ky kkwr)).mono ?_; rintro e wb ⟨rfl, kq1⟩; have kkwb : Kp wr wb := Kp.trans (show Kp wr _ from (ky kkwr)) kq1; clear kq1)
     (try go_wp2_with fail)
     refine hK.out _ _ ?_ (fun hHeld1 => ?_)
     ·(try dsimp only); exact KSz.out _ (ky kkwb)
     clear hK K hHeld0
     (try simp only [Act.put, rlq9, xA, xB, xC])
     refine tkv 10 rlq10 ?_
     (try simp only [Act.put, rlq10, xA, xB, xC])
     refine tkv 11 rlq11 ?_
     (try simp only [Act.put, rlq11, xA, xB, xC])
     refine wpAnyH_done (by kernel_rfl) ?_ _
     go_wp2
     go_roundw
     case rel => exact ⟨k + 1, n ||| bm, by omega, by go_num, by go_num, ltn, BN, Hd (J2.out.trans (ky kkwb))⟩
     case measure => simp [intOf]; omega
    ·have q2 : decide ((k : Int) < (y.length : Int)) = false := dF
     obtain rfl : k = y.length := by omega
     have BR := Hd (bits_cong BN0.out AR.out)
     have q9 := HLT.out
     go_wp2
     go_roundw
     case rel => exact ⟨i + 1, n, by omega, by go_num, by go_num, ltn0, BR, J2⟩
     case measure => simp [intOf]; omega
  ·have q1 : decide ((i : Int) < (x.length : Int)) = false := dF
   obtain rfl : i = x.length := by omega
   have EM := FN.out n0 ltm BM.out
   subst EM
   go_wp2
   go_ret2
   exact ⟨rfl, K4.out.trans J.out⟩
theorem rrel_any (vl vm : Value) (l m : List LF) (w : World) (hv : LeavesAt w vl l) (hu : LeavesAt w vm m) (hl : LsOk l) (hm : LsOk m) (nl : l.length ≤ 100) (nm : m.length ≤ 100) (fl : ∀ f ∈ l, FewP f) (fm : ∀ f ∈ m, FewP f) :
  Calls Tryz.prog 8 #[vl, vm] w fun e w' => e = .returned (.tuple #[.int .i64 ((relM l m : Nat) : Int), .int .i64 (relE l m)]) ∧ Kp w w' := by
 rcases Bool.eq_false_or_eq_true (okAll l) with h1 | h1
 ·rcases Bool.eq_false_or_eq_true (okAll m) with h2 | h2
  ·exact rrel_c vl vm l m w hv hu hl hm nl nm fl fm h1 h2
  ·exact rrel_b vl vm l m w hv hu hl hm h1 h2
 ·exact rrel_a vl vm l m w hv hu hl hm h1
end Go.Proofs.YtcooaoponkkpeaaGreatDoor
