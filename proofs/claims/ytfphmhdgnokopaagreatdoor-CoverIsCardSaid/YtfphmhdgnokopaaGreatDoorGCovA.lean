/-
  Joined: CovA, CovB, CovC, CovD, CovP, CovQ.
-/
import Derived.Test.YtfphmhdgnokopaaGreatDoorGEnv
import Derived.Test.YtfphmhdgnokopaaGreatDoorGSetC
import Derived.Laws.EntriesVeiled
import Derived.LoopTactic
import Derived.Test.YtfphmhdgnokopaaGreatDoorGLeafA
import Derived.Test.YtfphmhdgnokopaaGreatDoorApp
namespace Go.Proofs.YtfphmhdgnokopaaGreatDoor
open Go.RowKit
set_option linter.unusedVariables false
set_option linter.unusedSimpArgs false
theorem any_no {F : LF → Bool} {l : List LF} (h : ∀ i, i < l.length → F (lat l i) = false) : l.any F = false := by
  rw [List.any_eq_false]
  intro f hf
  obtain ⟨i, hi, rfl⟩ := List.mem_iff_getElem.1 hf
  have := h i hi
  unfold lat at this
  rw [List.getD_eq_getElem?_getD, List.getElem?_eq_getElem hi] at this
  rw [show (some l[i]).getD _ = l[i] from rfl] at this
  rw [this]
  decide
theorem any_yes {F : LF → Bool} {l : List LF} {k : Nat} (h : k < l.length) (g : F (lat l k) = true) : l.any F = true := List.any_eq_true.2 ⟨_, lat_mem h, g⟩
set_option maxHeartbeats 16000000 in
set_option maxRecDepth 100000 in
theorem index_any (g : FuncId) (cb : Array Value) (F : LF → Bool) (v : Value) (l : List LF) (w : World)
    (eg : ∀ args w, (callFunc g args).run Tryz.prog w = .ok (.enter g args) w)
    (hc : ∀ f va vb w1, Kp w w1 → f ∈ l → RunsAt w1 va f.a → RunsAt w1 vb f.b → Calls Tryz.prog g (#[.agg #[.bool f.sp, .int .i64 f.u, va, vb]] ++ cb) w1 fun e w' => e = .returned (.bool (F f)) ∧ Kp w1 w')
    (hv : LeavesAt w v l) :
    Calls Tryz.prog 125 #[v, .func (.func g) #[] cb] w fun e w' => ∃ r : Int, e = .returned (.int .i64 r) ∧ decide (0 ≤ r) = l.any F ∧ Kp w w' := by
  have hm := hv.len
  unfold maxLen at hm
  obtain ⟨ad, cp, rfl⟩ := hv.slice
  have HV := Lib.hid hv
  have HC := Lib.hid hc
  have NO := Lib.hid (fun h => any_no (F := F) (l := l) h)
  have YES := Lib.hid (fun k (h : k < l.length) g => any_yes (F := F) h g)
  have HL : Hid (∀ f ∈ l, True) := Lib.hid (fun _ _ => trivial)
  have Z0 := Lib.hid (Kp.refl w)
  clear hv hc
  generalize l.any F = r at *
  go_enter Tryz.func125, Tryz.ntmps125
  go_wp2
  go_loopw [8] (fun i wr => ∃ k : Nat, k ≤ l.length ∧ i = .int .i64 k ∧ Hid (∀ i, i < k → F (lat l i) = false) ∧ Hid (Kp w wr)) (fun i _ => l.length - (intOf i).toNat)
  case atStart => exact ⟨0, Nat.zero_le _, rfl, Lib.hid (fun i h => by omega), Z0⟩
  case round =>
    obtain ⟨k, hk, rfl, FA, J⟩ := hrel
    by_cases hlt : k < l.length
    · rcases HV.out.kp J.out with ⟨_, _, _, e⟩ | ⟨b0, off, cap, ev, hc, hmx, hx⟩
      · rw [e] at hlt; simp at hlt
      cases ev
      obtain ⟨va, vb, d0, d1, d2, d3, ra, rb⟩ := hx k hlt
      have LOK := HL.out _ (lat_mem hlt)
      obtain ⟨f, hf⟩ : ∃ f, lat l k = f := ⟨_, rfl⟩
      rw [hf] at d0 d1 ra rb
      (try rw [hf] at LOK)
      obtain ⟨sp, u, a, b⟩ := f
      simp only at d0 d1 ra rb
      (try simp only at LOK)
      obtain ⟨aa, ca, rfl⟩ := ra.slice
      obtain ⟨ab, cb, rfl⟩ := rb.slice
      have HF := Lib.hid hf
      have z1 : (k : Int) < (l.length : Int) := by omega
      have z2 : (0 : Int) ≤ (k : Int) := by omega
      clear hx hc hmx hf
      have C := Lib.hid (HC.out ⟨sp, u, a, b⟩ _ _ wr J.out (by have := lat_mem hlt; rw [HF.out] at this; exact this) ra rb)
      have N := Lib.hid (fun (g : F ⟨sp, u, a, b⟩ = false) => (by rw [HF.out]; exact g : F (lat l k) = false))
      have Y := Lib.hid (fun g => YES.out k hlt (show F (lat l k) = true by rw [HF.out]; exact g))
      generalize F ⟨sp, u, a, b⟩ = fb at *
      clear ra rb
      cases fb with
      | true =>
        have hr := Y.out rfl
        subst hr
        go_wp2_with (go_at_fn g; refine (C.out).mono ?_; rintro e w1 ⟨rfl, kk⟩; have J1 := Lib.hid (J.out.trans kk); clear kk)
        go_ret
        exact ⟨_, rfl, decide_eq_true (by omega), J1.out⟩
      | false =>
        go_wp2_with (go_at_fn g; refine (C.out).mono ?_; rintro e w1 ⟨rfl, kk⟩; have J1 := Lib.hid (J.out.trans kk); clear kk)
        go_roundw
        case rel => exact ⟨k + 1, by omega, by go_num, Lib.hid (fun i hi => by
          by_cases c : i < k
          · exact FA.out i c
          · obtain rfl : i = k := by omega
            exact N.out (by first | rfl | trivial)), J1⟩
        case measure => simp [intOf]; omega
    · obtain rfl : k = l.length := by omega
      have hr := NO.out FA.out
      subst hr
      go_wp2
      go_ret
      exact ⟨_, rfl, by decide, J.out⟩
set_option maxHeartbeats 16000000 in
set_option maxRecDepth 100000 in
theorem contains_any (g : FuncId) (cb : Array Value) (F : LF → Bool) (v : Value) (l : List LF) (w : World)
    (eg : ∀ args w, (callFunc g args).run Tryz.prog w = .ok (.enter g args) w)
    (hc : ∀ f va vb w1, Kp w w1 → f ∈ l → RunsAt w1 va f.a → RunsAt w1 vb f.b → Calls Tryz.prog g (#[.agg #[.bool f.sp, .int .i64 f.u, va, vb]] ++ cb) w1 fun e w' => e = .returned (.bool (F f)) ∧ Kp w1 w')
    (hv : LeavesAt w v l) :
    Calls Tryz.prog 98 #[v, .func (.func g) #[] cb] w fun e w' => e = .returned (.bool (l.any F)) ∧ Kp w w' := by
  have C := Lib.hid (index_any g cb F v l w eg hc hv)
  generalize l.any F = r at *
  clear hc hv eg
  go_enter Tryz.func98, Tryz.ntmps98
  go_wp2_with fail
  refine (C.out).mono ?_
  rintro e w1 ⟨x, rfl, hx, kk⟩
  have K1 := Lib.hid kk
  clear kk
  go_wp2
  go_ret
  exact ⟨by first | rfl | simp [hx], K1.out⟩
noncomputable def posB (l : List LF) (d : Int) : Bool := l.any fun f => coversF (famR f) d
theorem possible_any (v : Value) (l : List LF) (d : Int) (w : World) (hv : LeavesAt w v l) (hl : LsOk l) (T : Tabs w) :
    Calls Tryz.prog 46 #[v, .int .i64 d] w fun e w' => e = .returned (.bool (posB l d)) ∧ Kp w w' := by
  obtain ⟨W0, hW⟩ : ∃ W0, W0 = w.alloc (.cells #[.int .i64 d] 3) := ⟨_, rfl⟩
  have k0 : Kp w W0 := by rw [hW]; exact Kp.alloc _ _
  have c0 : W0.cell? ⟨w.heap.size, 0, none⟩ = some (.int .i64 d) := by rw [hW]; simp
  have CP : ∀ f va vb w1, Kp W0 w1 → f ∈ l → RunsAt w1 va f.a → RunsAt w1 vb f.b → Calls Tryz.prog 99 (#[.agg #[.bool f.sp, .int .i64 f.u, va, vb]] ++ #[.pointer (some ⟨w.heap.size, 0, none⟩)]) w1 fun e w' => e = .returned (.bool (coversF (famR f) d)) ∧ Kp w1 w' := by
    intro f va vb w1 kk hf ra rb
    have lo := hl f hf
    have ok : LeafOk w1 f va vb := ⟨ra, rb, lo.1, lo.2.1, lo.2.2.1, lo.2.2.2⟩
    have C := Lib.hid (fun w2 (kk2 : Kp w1 w2) => leafCovers_any f va vb d w2 (ok.kp kk2) (T.kp (k0.trans (kk.trans kk2))))
    have d0 := cell_up kk c0
    obtain ⟨sp, u, a, b⟩ := f
    obtain ⟨aa, ca, rfl⟩ := ra.slice
    obtain ⟨ab, cb, rfl⟩ := rb.slice
    simp only [leafV] at C
    generalize coversF (famR ⟨sp, u, a, b⟩) d = q at *
    have zs := World.block_lt_of_cell? w1 _ d0
    have zs' : ¬ w.heap.size = w1.heap.size := by simp at zs; omega
    have K1 := Lib.hid (Kp.refl w1)
    clear ra rb ok lo hf kk c0 k0 hl hv T
    go_enter Tryz.func99, Tryz.ntmps99
    go_wp2_with fail
    refine (C.out _ (by first | with_reducible exact K1.out | with_reducible exact K1.out.trans (Kp.alloc _ _) | with_reducible exact (K1.out.trans (Kp.alloc _ _)).trans (Kp.alloc _ _) | with_reducible exact ((K1.out.trans (Kp.alloc _ _)).trans (Kp.alloc _ _)).trans (Kp.alloc _ _) | with_reducible exact K1.out.trans (Kp.drew _) | with_reducible exact K1.out.trans (Kp.drewN _ _))).mono ?_
    rintro e w2 ⟨rfl, kk⟩
    have K2 := Lib.hid ((show Kp w1 _ from (by first | with_reducible exact K1.out | with_reducible exact K1.out.trans (Kp.alloc _ _) | with_reducible exact (K1.out.trans (Kp.alloc _ _)).trans (Kp.alloc _ _) | with_reducible exact ((K1.out.trans (Kp.alloc _ _)).trans (Kp.alloc _ _)).trans (Kp.alloc _ _) | with_reducible exact K1.out.trans (Kp.drew _) | with_reducible exact K1.out.trans (Kp.drewN _ _))).trans kk)
    go_wp2
    go_ret
    exact ⟨rfl, K2.out⟩
  have C := Lib.hid (contains_any 99 #[.pointer (some ⟨w.heap.size, 0, none⟩)] (fun f => coversF (famR f) d) v l W0 (enters_of Tryz.func99 (by kernel_rfl) rfl) CP (hv.kp k0))
  rw [show (l.any fun f => coversF (famR f) d) = posB l d from rfl] at C
  generalize posB l d = r at *
  have K0 := Lib.hid k0
  have HW := Lib.hid hW
  clear hW k0 c0 CP hv hl T
  go_enter Tryz.func46, Tryz.ntmps46
  go_wp2_with fail
  rw [← HW.out]
  refine (C.out).mono ?_
  rintro e w1 ⟨rfl, kk⟩
  have K1 := Lib.hid kk
  go_wp2
  go_ret
  exact ⟨rfl, K0.out.trans K1.out⟩
end Go.Proofs.YtfphmhdgnokopaaGreatDoor

namespace Go.Proofs.YtfphmhdgnokopaaGreatDoor
open Go.RowKit
set_option linter.unusedVariables false
set_option linter.unusedSimpArgs false
/-- the certain days -/
noncomputable def sureR (l : List LF) : List R := if anyB l = true then nf [((envF dGS max l).1, (envF dLE min l).1)] else []
theorem sureR_sane (l : List LF) : sane (sureR l) := by
  unfold sureR
  split
  · exact nf_sane _
  · trivial
theorem sureR_len (l : List LF) : (sureR l).length ≤ 1 := by
  unfold sureR
  split
  · exact nf_len _
  · simp
theorem env_days {l : List LF} (h : anyB l = true) : 0 ≤ (envF dGS max l).1 ∧ (envF dGS max l).1 ≤ 3652424 ∧ 0 ≤ (envF dLE min l).1 ∧ (envF dLE min l).1 ≤ 3652424 := by
  have e0 : ∀ f : LF, fullB f = true → emptyF (famR f) = false := fun f h => by unfold fullB at h; simpa using h
  obtain ⟨_, _, f2, hf2, full2, e2⟩ := env_min dLE l h
  obtain ⟨_, _, ⟨s, m2⟩, _⟩ := days_met (famR_ok f2) (e0 f2 full2)
  have w2 := hasF_le (famR_ok f2) m2
  obtain ⟨_, _, f3, hf3, full3, e3⟩ := env_max dGS l h
  obtain ⟨_, ⟨t3, m3⟩, _, _⟩ := days_met (famR_ok f3) (e0 f3 full3)
  have w3 := hasF_le (famR_ok f3) m3
  rw [← e2, ← e3]
  omega
set_option maxHeartbeats 16000000 in
set_option maxRecDepth 100000 in
theorem sure_any (v : Value) (l : List LF) (w : World) (hv : LeavesAt w v l) (hl : LsOk l) (T : Tabs w) :
    Calls Tryz.prog 44 #[v] w fun e w' => ∃ v' : Value, e = .returned (.tuple #[v', .int .i64 (if anyB l = true then 0 else 9)]) ∧ RunsAt w' v' (sureR l) ∧ Kp w w' := by
  have C1 := Lib.hid (fun w1 (kk : Kp w w1) => envLastStart_any v l w1 (hv.kp kk) hl (T.kp kk))
  have C2 := Lib.hid (fun w1 (kk : Kp w w1) => envFirstEnd_any v l w1 (hv.kp kk) hl (T.kp kk))
  rcases Bool.eq_false_or_eq_true (anyB l) with ha | ha
  · have dd := env_days ha
    have e1 := (env_max dGS l ha).1
    have e2 := (env_min dLE l ha).1
    rw [e1] at C1
    rw [e2] at C2
    unfold sureR
    rw [if_pos ha, if_pos ha]
    generalize (envF dGS max l).1 = s at *
    generalize (envF dLE min l).1 = t' at *
    have ii : I64R [(s, t')] := i64_one (by omega) (by omega) (by omega) (by omega)
    clear e1 e2 hv hl T ha
    go_enter Tryz.func44, Tryz.ntmps44
    go_wp2_with fail
    refine (C1.out _ (Kp.refl _)).mono ?_
    rintro e w1 ⟨rfl, kk⟩
    have K1 := Lib.hid kk
    clear kk
    go_wp2_with fail
    refine (C2.out _ (by first | with_reducible exact K1.out | with_reducible exact K1.out.trans (Kp.alloc _ _) | with_reducible exact (K1.out.trans (Kp.alloc _ _)).trans (Kp.alloc _ _) | with_reducible exact ((K1.out.trans (Kp.alloc _ _)).trans (Kp.alloc _ _)).trans (Kp.alloc _ _) | with_reducible exact K1.out.trans (Kp.drew _) | with_reducible exact K1.out.trans (Kp.drewN _ _))).mono ?_
    rintro e w2 ⟨rfl, kk⟩
    have K2 := Lib.hid ((show Kp w _ from (by first | with_reducible exact K1.out | with_reducible exact K1.out.trans (Kp.alloc _ _) | with_reducible exact (K1.out.trans (Kp.alloc _ _)).trans (Kp.alloc _ _) | with_reducible exact ((K1.out.trans (Kp.alloc _ _)).trans (Kp.alloc _ _)).trans (Kp.alloc _ _) | with_reducible exact K1.out.trans (Kp.drew _) | with_reducible exact K1.out.trans (Kp.drewN _ _))).trans kk)
    clear kk
    have CM := Lib.hid (fun t => make_any (.slice (some ⟨w2.heap.size, 0, none⟩) 1 1) [(s, t')] (w2.alloc (.cells #[.int .i64 s, .int .i64 t'] t)) (one_at w2 s t' t) ii (by simp))
    go_wp2_with fail
    refine (CM.out _).mono ?_
    rintro e w3 ⟨v3, rfl, own3, kk⟩
    have R3 := Lib.hid (runsAt_own own3)
    have K3 := Lib.hid (K2.out.trans ((Kp.alloc _ _).trans kk))
    clear kk own3
    go_wp2
    exact bodyPost_ret (results_tmp2 rfl _ _ _) rfl ⟨_, rfl, R3.out, K3.out⟩
  · rw [env_nil _ _ _ ha] at C1 C2
    unfold sureR
    rw [if_neg (by rw [ha]; decide), if_neg (by rw [ha]; decide)]
    clear hv hl T ha
    go_enter Tryz.func44, Tryz.ntmps44
    go_wp2_with fail
    refine (C1.out _ (Kp.refl _)).mono ?_
    rintro e w1 ⟨rfl, kk⟩
    have K1 := Lib.hid kk
    clear kk
    go_wp2
    exact bodyPost_ret (results_tmp2 rfl _ _ _) rfl ⟨_, rfl, .inl ⟨_, _, rfl, rfl⟩, K1.out⟩
set_option maxHeartbeats 16000000 in
set_option maxRecDepth 100000 in
noncomputable def cerB (l : List LF) (d : Int) : Bool := anyB l && hasB (sureR l) d
theorem certain_any (v : Value) (l : List LF) (d : Int) (w : World) (hv : LeavesAt w v l) (hl : LsOk l) (T : Tabs w) (d1 : -9223372036854775808 ≤ d) (d2 : d ≤ 9223372036854775807) :
    Calls Tryz.prog 48 #[v, .int .i64 d] w fun e w' => e = .returned (.bool (cerB l d)) ∧ Kp w w' := by
  have C := Lib.hid (sure_any v l w hv hl T)
  have SS := Lib.hid (sureR_sane l)
  have SL := sureR_len l
  have CH := Lib.hid (fun w1 ad c (hr : RunsAt w1 (.slice ad (sureR l).length c) (sureR l)) => has_any ad c (sureR l) d w1 hr (sane_i64 SS.out) (by omega) d1 d2)
  rw [nf_of_sane SS.out] at CH
  unfold cerB
  generalize sureR l = s at *
  generalize anyB l = q at *
  clear hv hl T
  cases q with
  | false =>
    rw [if_neg (by decide)] at C
    go_enter Tryz.func48, Tryz.ntmps48
    go_wp2_with fail
    refine (C.out).mono ?_
    rintro e w1 ⟨v1, rfl, hr, kk⟩
    obtain ⟨ad, c, rfl⟩ := hr.slice
    have K1 := Lib.hid kk
    clear kk hr
    go_wp2
    go_ret
    exact ⟨rfl, K1.out⟩
  | true =>
    rw [if_pos rfl] at C
    generalize hasB s d = z at *
    go_enter Tryz.func48, Tryz.ntmps48
    go_wp2_with fail
    refine (C.out).mono ?_
    rintro e w1 ⟨v1, rfl, hr, kk⟩
    obtain ⟨ad, c, rfl⟩ := hr.slice
    have K1 := Lib.hid kk
    have HR := Lib.hid hr
    clear kk hr
    have Z1 := Lib.hid (Kp.refl w1)
    go_wp2_with fail
    refine (CH.out _ _ _ (HR.out.kp (by first | with_reducible exact Kp.refl _ | with_reducible exact Kp.alloc _ _ | with_reducible exact (Kp.alloc _ _).trans (Kp.alloc _ _) | with_reducible exact ((Kp.alloc _ _).trans (Kp.alloc _ _)).trans (Kp.alloc _ _) | with_reducible exact Kp.drew _ | with_reducible exact Kp.drewN _ _))).mono ?_
    rintro e w2 ⟨rfl, kk⟩
    have K2 := Lib.hid (K1.out.trans ((show Kp w1 _ from (by first | with_reducible exact Kp.refl _ | with_reducible exact Kp.alloc _ _ | with_reducible exact (Kp.alloc _ _).trans (Kp.alloc _ _) | with_reducible exact ((Kp.alloc _ _).trans (Kp.alloc _ _)).trans (Kp.alloc _ _) | with_reducible exact Kp.drew _ | with_reducible exact Kp.drewN _ _)).trans kk))
    go_wp2
    go_ret
    exact ⟨rfl, K2.out⟩
end Go.Proofs.YtfphmhdgnokopaaGreatDoor

namespace Go.Proofs.YtfphmhdgnokopaaGreatDoor
open Go.RowKit
set_option linter.unusedVariables false
set_option linter.unusedSimpArgs false
theorem nxt_zero {s : List R} (h : setB 0 s = true) (h0 : 0 < s.length) : nxt s 0 = (leastR s, true) := by
  have m := setB_mem h (least_mem (setB_sane h) h0)
  have o := sane_ok (setB_sane h) _ (at_mem h0)
  unfold okR at o
  unfold leastR at m ⊢
  rw [nxt_at s 0 0 (by omega) (fun k hk => by omega) (fun _ => by omega), if_neg (by omega)]
  rw [show max 0 (at_ s 0).1 = (at_ s 0).1 by omega]
theorem prv_day {s : List R} (h : setB 0 s = true) (h0 : 0 < s.length) : prv s 3652424 = (greatR s, true) := by
  have m := setB_mem h (great_mem (setB_sane h) h0)
  rw [cnt_zero] at m
  have o := sane_ok (setB_sane h) _ (at_mem (show s.length - 1 < s.length by omega))
  unfold okR at o
  unfold greatR at m ⊢
  rw [prv_at s 3652424 s.length (Nat.le_refl _) (fun k hk => by omega) (fun _ => by omega), if_neg (by omega)]
  rw [show min 3652424 (at_ s (s.length - 1)).2 = (at_ s (s.length - 1)).2 by omega]
/-- all days of a family -/
noncomputable def dayR : Fam → List R
  | .units k s => coverR k s
  | .span s e => [(leastR s, greatR e)]
set_option maxHeartbeats 16000000 in
set_option maxRecDepth 100000 in
theorem cdays_any (F : Fam) (va vb : Value) (w : World) (hF : FOK F) (h0 : emptyF F = false) (ok : LeafOk w (lfOf F) va vb) (T : Tabs w) :
    Calls Tryz.prog 92 #[leafV (lfOf F) va vb] w fun e w' => ∃ v', e = .returned v' ∧ RunsAt w' v' (dayR F) ∧ Kp w w' := by
  obtain ⟨ra, rb, ia, ib, na, nb⟩ := ok
  cases F with
  | units k s =>
    unfold emptyF at h0
    have h1 := of_decide_eq_false h0
    rw [lfOf_u1 h1] at ra rb ia ib na nb ⊢
    simp only [leafV] at *
    have C := Lib.hid (fun w1 (kk : Kp w w1) => cover_any k va s w1 (ra.kp kk) ia (by omega) (T.kp kk))
    rw [show dayR (.units k s) = coverR k s from rfl]
    obtain ⟨ad, ca, rfl⟩ := ra.slice
    obtain ⟨bd, cb, rfl⟩ := rb.slice
    generalize coverR k s = RES at *
    have K0 := Lib.hid (Kp.alloc w (.cells #[.bool false, .int .i64 k, .slice ad s.length ca, .slice bd ([] : List R).length cb] 24))
    clear ra rb ia ib T h0 hF
    go_enter Tryz.func92, Tryz.ntmps92
    go_wp2_with fail
    refine (C.out _ K0.out).mono ?_
    rintro e w1 ⟨v1, rfl, own, kk⟩
    have R1 := Lib.hid (runsAt_own own)
    have K1 := Lib.hid (K0.out.trans kk)
    clear own kk
    go_wp2
    go_ret
    exact ⟨_, rfl, R1.out, K1.out⟩
  | span s t =>
    unfold emptyF at h0
    have h1 := of_decide_eq_false h0
    have l0 : 0 < s.length := by omega
    have s1 := setB_sane hF.1
    have s2 := setB_sane hF.2.1
    have l1 : 0 < t.length := by
      obtain ⟨m, hm, _⟩ := hF.2.2.1 _ (least_mem s1 l0)
      exact mem_pos hm
    rw [lfOf_s1 h1] at ra rb ia ib na nb ⊢
    simp only [leafV] at *
    rw [show dayR (.span s t) = [(leastR s, greatR t)] from rfl]
    have b1 := leastR_i64 ia l0
    have b2 := greatR_i64 ib l1
    obtain ⟨ad, ca, rfl⟩ := ra.slice
    obtain ⟨bd, cb, rfl⟩ := rb.slice
    have CN := Lib.hid (fun w1 (kk : Kp w w1) => next_of _ _ _ s 0 w1 (asS_sane _ s w1 (ra.kp kk) ia s1) s1 (by omega) (by decide) (by decide))
    have CP := Lib.hid (fun w1 (kk : Kp w w1) => prev_of _ _ _ t 3652424 w1 (asS_sane _ t w1 (rb.kp kk) ib s2) s2 (by omega) (by decide) (by decide))
    rw [nxt_zero hF.1 l0] at CN
    rw [prv_day hF.2.1 l1] at CP
    generalize leastR s = x at *
    generalize greatR t = y at *
    obtain ⟨W0, hW⟩ : ∃ x, x = w.alloc (.cells #[.bool true, .int .i64 0, .slice ad s.length ca, .slice bd t.length cb] 24) := ⟨_, rfl⟩
    have k0 : Kp w W0 := by rw [hW]; exact Kp.alloc _ _
    have HB := Lib.hid (fun w1 (k : Kp W0 w1) => show w1.cell? ⟨w.heap.size, 0, none⟩ = some (.bool true) ∧ w1.cell? ⟨w.heap.size, 1, none⟩ = some (.int .i64 0) ∧ w1.cell? ⟨w.heap.size, 2, none⟩ = some (.slice ad s.length ca) ∧ w1.cell? ⟨w.heap.size, 3, none⟩ = some (.slice bd t.length cb) from ⟨cell_up k (by rw [hW]; simp), cell_up k (by rw [hW]; simp), cell_up k (by rw [hW]; simp), cell_up k (by rw [hW]; simp)⟩)
    have K0 := Lib.hid k0
    have HW := Lib.hid hW
    have Z0 := Lib.hid (Kp.refl W0)
    clear ra rb ia ib T h0 hF h1 l0 l1 s1 s2 hW k0 b1 b2
    go_enter Tryz.func92, Tryz.ntmps92
    go_wp2_with fail
    rw [← HW.out]
    refine (CN.out _ (K0.out.trans (by first | with_reducible exact Z0.out | with_reducible exact Z0.out.trans (Kp.alloc _ _) | with_reducible exact (Z0.out.trans (Kp.alloc _ _)).trans (Kp.alloc _ _) | with_reducible exact ((Z0.out.trans (Kp.alloc _ _)).trans (Kp.alloc _ _)).trans (Kp.alloc _ _) | with_reducible exact Z0.out.trans (Kp.drew _) | with_reducible exact Z0.out.trans (Kp.drewN _ _)))).mono ?_
    rintro e w1 ⟨rfl, kk⟩
    have K1 := Lib.hid ((show Kp W0 _ from (by first | with_reducible exact Z0.out | with_reducible exact Z0.out.trans (Kp.alloc _ _) | with_reducible exact (Z0.out.trans (Kp.alloc _ _)).trans (Kp.alloc _ _) | with_reducible exact ((Z0.out.trans (Kp.alloc _ _)).trans (Kp.alloc _ _)).trans (Kp.alloc _ _) | with_reducible exact Z0.out.trans (Kp.drew _) | with_reducible exact Z0.out.trans (Kp.drewN _ _))).trans kk)
    clear kk
    obtain ⟨c0, c1, c2, c3⟩ := HB.out w1 K1.out
    go_wp2_with fail
    refine (CP.out _ (K0.out.trans (by first | with_reducible exact K1.out | with_reducible exact K1.out.trans (Kp.alloc _ _) | with_reducible exact (K1.out.trans (Kp.alloc _ _)).trans (Kp.alloc _ _) | with_reducible exact ((K1.out.trans (Kp.alloc _ _)).trans (Kp.alloc _ _)).trans (Kp.alloc _ _) | with_reducible exact K1.out.trans (Kp.drew _) | with_reducible exact K1.out.trans (Kp.drewN _ _)))).mono ?_
    rintro e w2 ⟨rfl, kk⟩
    have K2 := Lib.hid ((show Kp W0 _ from (by first | with_reducible exact K1.out | with_reducible exact K1.out.trans (Kp.alloc _ _) | with_reducible exact (K1.out.trans (Kp.alloc _ _)).trans (Kp.alloc _ _) | with_reducible exact ((K1.out.trans (Kp.alloc _ _)).trans (Kp.alloc _ _)).trans (Kp.alloc _ _) | with_reducible exact K1.out.trans (Kp.drew _) | with_reducible exact K1.out.trans (Kp.drewN _ _))).trans kk)
    clear kk
    go_wp2
    go_ret
    exact ⟨_, rfl, one_at w2 x y _, K0.out.trans (K2.out.trans (Kp.alloc _ _))⟩
end Go.Proofs.YtfphmhdgnokopaaGreatDoor

namespace Go.Proofs.YtfphmhdgnokopaaGreatDoor
open Go.RowKit
set_option linter.unusedVariables false
set_option linter.unusedSimpArgs false
theorem filter_no {l : List LF} {k : Nat} (h : k < l.length) (g : fullB (lat l k) = false) : (l.take (k + 1)).filter fullB = (l.take k).filter fullB := by
  rw [take_lat l k h, List.filter_append]
  simp [g]
theorem filter_yes {l : List LF} {k : Nat} (h : k < l.length) (g : fullB (lat l k) = true) : (l.take (k + 1)).filter fullB = (l.take k).filter fullB ++ [lat l k] := by
  rw [take_lat l k h, List.filter_append]
  simp [g]
set_option maxHeartbeats 16000000 in
set_option maxRecDepth 100000 in
theorem ceach_any (g : FuncId) (cb : Array Value) (J : List LF → World → Prop) (v : Value) (l : List LF) (w0 w : World)
    (eg : ∀ args w, (callFunc g args).run Tryz.prog w = .ok (.enter g args) w)
    (hK : ∀ pre w1, J pre w1 → Kp w0 w1) (hJ : ∀ pre w1 w2, J pre w1 → Kp w1 w2 → J pre w2) (h0 : J [] w)
    (hc : ∀ pre f va vb w1, J pre w1 → f ∈ l → fullB f = true → pre ++ [f] <+: l.filter fullB → LeafOk w1 (lfOf (famR f)) va vb → Calls Tryz.prog g (#[leafV (lfOf (famR f)) va vb] ++ cb) w1 fun e w' => e = .returned (.tuple #[]) ∧ J (pre ++ [f]) w')
    (hv : LeavesAt w0 v l) (hl : LsOk l) (T : Tabs w0) :
    Calls Tryz.prog 90 #[v, .func (.func g) #[] cb] w fun e w' => e = .returned (.tuple #[]) ∧ J (l.filter fullB) w' := by
  have hm := hv.len
  unfold maxLen at hm
  obtain ⟨ad, cp, rfl⟩ := hv.slice
  have HV := Lib.hid hv
  have HL := Lib.hid hl
  have TT := Lib.hid T
  have HK := Lib.hid hK
  have HJ := Lib.hid hJ
  have HC := Lib.hid hc
  have F0 := Lib.hid (show J ((l.take 0).filter fullB) w from h0)
  have FN := Lib.hid (fun k (h : k < l.length) g => filter_no h g)
  have FY := Lib.hid (fun k (h : k < l.length) g => filter_yes h g)
  have FP := Lib.hid (fun k => show (l.take k).filter fullB <+: l.filter fullB from (List.take_prefix k l).filter _)
  have FE := Lib.hid (show (l.take l.length).filter fullB = l.filter fullB by rw [List.take_length])
  clear hv hl T hK hJ hc h0
  generalize hP : (fun k => (l.take k).filter fullB) = PP at *
  have F0' : J (PP 0) w := by rw [← hP]; exact F0.out
  have FN' : ∀ k, k < l.length → fullB (lat l k) = false → PP (k + 1) = PP k := fun k h g => by rw [← hP]; exact FN.out k h g
  have FY' : ∀ k, k < l.length → fullB (lat l k) = true → PP (k + 1) = PP k ++ [lat l k] := fun k h g => by rw [← hP]; exact FY.out k h g
  have FE' : PP l.length = l.filter fullB := by rw [← hP]; exact FE.out
  have FP' : ∀ k, PP k <+: l.filter fullB := fun k => by rw [← hP]; exact FP.out k
  have GP := Lib.hid FP'
  have G0 := Lib.hid F0'
  have GN := Lib.hid FN'
  have GY := Lib.hid FY'
  have GE := Lib.hid FE'
  clear F0 FN FY FE FP F0' FN' FY' FE' FP' hP
  go_enter Tryz.func90, Tryz.ntmps90
  go_wp2
  go_loopw [8] (fun i wr => ∃ k : Nat, k ≤ l.length ∧ i = .int .i64 k ∧ Hid (J (PP k) wr)) (fun i _ => l.length - (intOf i).toNat)
  case atStart => exact ⟨0, Nat.zero_le _, rfl, G0⟩
  case round =>
    obtain ⟨k, hk, rfl, JJ⟩ := hrel
    have KJ := Lib.hid (HK.out _ _ JJ.out)
    by_cases hlt : k < l.length
    · rcases HV.out.kp KJ.out with ⟨_, _, _, e⟩ | ⟨b0, off, cap, ev, hc, hmx, hx⟩
      · rw [e] at hlt; simp at hlt
      cases ev
      obtain ⟨va, vb, d0, d1, d2, d3, ra, rb⟩ := hx k hlt
      have LOK := HL.out _ (lat_mem hlt)
      obtain ⟨f, hf⟩ : ∃ f, lat l k = f := ⟨_, rfl⟩
      rw [hf] at d0 d1 ra rb
      (try rw [hf] at LOK)
      obtain ⟨sp, u, a, b⟩ := f
      simp only at d0 d1 ra rb
      (try simp only at LOK)
      obtain ⟨aa, ca, rfl⟩ := ra.slice
      obtain ⟨ab, cb, rfl⟩ := rb.slice
      have HF := Lib.hid hf
      have z1 : (k : Int) < (l.length : Int) := by omega
      have z2 : (0 : Int) ≤ (k : Int) := by omega
      clear hx hc hmx hf
      have ok : LeafOk wr ⟨sp, u, a, b⟩ _ _ := ⟨ra, rb, LOK.1, LOK.2.1, LOK.2.2.1, LOK.2.2.2⟩
      have tw := TT.out.kp KJ.out
      have CE := Lib.hid (fun w1 (kk : Kp wr w1) => leafEmpty_any ⟨sp, u, a, b⟩ _ _ w1 (ok.kp kk) (tw.kp kk).2)
      have CT := Lib.hid (fun w1 (kk : Kp wr w1) => leafTidy_any ⟨sp, u, a, b⟩ _ _ w1 (ok.kp kk) (tw.kp kk))
      have mem : (⟨sp, u, a, b⟩ : LF) ∈ l := by have := lat_mem hlt; rw [HF.out] at this; exact this
      have gn := GN.out k hlt
      have gy := GY.out k hlt
      rw [HF.out] at gn gy
      have CG := Lib.hid (fun va vb w1 (j : J (PP k) w1) (q : fullB ⟨sp, u, a, b⟩ = true) ok => HC.out (PP k) ⟨sp, u, a, b⟩ va vb w1 j mem q (by have := GP.out (k + 1); rwa [gy q] at this) ok)
      have fb : fullB ⟨sp, u, a, b⟩ = !emptyF (famR ⟨sp, u, a, b⟩) := rfl
      rw [show leafV ⟨sp, u, a, b⟩ (.slice aa a.length ca) (.slice ab b.length cb) = .agg #[.bool sp, .int .i64 u, .slice aa a.length ca, .slice ab b.length cb] from rfl] at CE CT
      generalize lfOf (famR ⟨sp, u, a, b⟩) = t at *
      generalize emptyF (famR ⟨sp, u, a, b⟩) = q at *
      have NN := Lib.hid gn
      have NY := Lib.hid gy
      have FB := Lib.hid fb
      have MM := Lib.hid mem
      obtain ⟨V, hV⟩ : ∃ x, x = wr.alloc (.cells #[.bool sp, .int .i64 u, .slice aa a.length ca, .slice ab b.length cb] 24) := ⟨_, rfl⟩
      have ka : Kp wr V := by rw [hV]; exact Kp.alloc _ _
      have hgq : V.heap[wr.heap.size]? = some (.cells #[.bool sp, .int .i64 u, .slice aa a.length ca, .slice ab b.length cb] 24 (0, 0)) := by rw [hV]; exact heap_at _ _ _ rfl
      have q0 : V.cell? ⟨wr.heap.size, 0, none⟩ = some (.bool sp) := by simp [World.cell?, hgq]
      have q1 : V.cell? ⟨wr.heap.size, 1, none⟩ = some (.int .i64 u) := by simp [World.cell?, hgq]
      have q2 : V.cell? ⟨wr.heap.size, 2, none⟩ = some (.slice aa a.length ca) := by simp [World.cell?, hgq]
      have q3 : V.cell? ⟨wr.heap.size, 3, none⟩ = some (.slice ab b.length cb) := by simp [World.cell?, hgq]
      have HB := Lib.hid (fun w1 (kk : Kp V w1) => show w1.cell? ⟨wr.heap.size, 0, none⟩ = some (.bool sp) ∧ w1.cell? ⟨wr.heap.size, 1, none⟩ = some (.int .i64 u) ∧ w1.cell? ⟨wr.heap.size, 2, none⟩ = some (.slice aa a.length ca) ∧ w1.cell? ⟨wr.heap.size, 3, none⟩ = some (.slice ab b.length cb) from ⟨cell_up kk q0, cell_up kk q1, cell_up kk q2, cell_up kk q3⟩)
      have KA := Lib.hid ka
      have KV := Lib.hid (Kp.refl V)
      have HV2 := Lib.hid hV
      clear ra rb ok tw mem gn gy fb hV ka hgq q0 q1 q2 q3
      go_wp2_with fail
      rw [← HV2.out]
      refine (CE.out _ (KA.out.trans (by first | with_reducible exact KV.out | with_reducible exact KV.out.trans (Kp.alloc _ _) | with_reducible exact (KV.out.trans (Kp.alloc _ _)).trans (Kp.alloc _ _) | with_reducible exact ((KV.out.trans (Kp.alloc _ _)).trans (Kp.alloc _ _)).trans (Kp.alloc _ _) | with_reducible exact KV.out.trans (Kp.drew _) | with_reducible exact KV.out.trans (Kp.drewN _ _)))).mono ?_
      rintro e w1 ⟨rfl, kk⟩
      have K1 := Lib.hid ((show Kp V _ from (by first | with_reducible exact KV.out | with_reducible exact KV.out.trans (Kp.alloc _ _) | with_reducible exact (KV.out.trans (Kp.alloc _ _)).trans (Kp.alloc _ _) | with_reducible exact ((KV.out.trans (Kp.alloc _ _)).trans (Kp.alloc _ _)).trans (Kp.alloc _ _) | with_reducible exact KV.out.trans (Kp.drew _) | with_reducible exact KV.out.trans (Kp.drewN _ _))).trans kk)
      clear kk d0 d1 d2 d3
      obtain ⟨c0, c1, c2, c3⟩ := HB.out w1 K1.out
      cases q with
      | true =>
        have fb : fullB ⟨sp, u, a, b⟩ = false := by rw [FB.out]; rfl
        have n1 := Lib.hid (NN.out fb)
        have J1 := Lib.hid (show J (PP (k + 1)) w1 by rw [n1.out]; exact HJ.out _ _ _ JJ.out (KA.out.trans K1.out))
        clear fb
        go_wp2
        go_roundw
        case rel => exact ⟨k + 1, by omega, by go_num, J1⟩
        case measure => simp [intOf]; omega
      | false =>
        have fb := Lib.hid (show fullB ⟨sp, u, a, b⟩ = true by rw [FB.out]; rfl)
        have n1 := Lib.hid (NY.out fb.out)
        go_wp2_with fail
        refine (CT.out _ (KA.out.trans (by first | with_reducible exact K1.out | with_reducible exact K1.out.trans (Kp.alloc _ _) | with_reducible exact (K1.out.trans (Kp.alloc _ _)).trans (Kp.alloc _ _) | with_reducible exact ((K1.out.trans (Kp.alloc _ _)).trans (Kp.alloc _ _)).trans (Kp.alloc _ _) | with_reducible exact K1.out.trans (Kp.drew _) | with_reducible exact K1.out.trans (Kp.drewN _ _)))).mono ?_
        rintro e w2 ⟨ta, tb, rfl, okt, kk⟩
        have K2 := Lib.hid ((show Kp V _ from (by first | with_reducible exact K1.out | with_reducible exact K1.out.trans (Kp.alloc _ _) | with_reducible exact (K1.out.trans (Kp.alloc _ _)).trans (Kp.alloc _ _) | with_reducible exact ((K1.out.trans (Kp.alloc _ _)).trans (Kp.alloc _ _)).trans (Kp.alloc _ _) | with_reducible exact K1.out.trans (Kp.drew _) | with_reducible exact K1.out.trans (Kp.drewN _ _))).trans kk)
        have J2 := Lib.hid (HJ.out _ _ _ JJ.out (KA.out.trans K2.out))
        have C := Lib.hid (CG.out ta tb w2 J2.out fb.out okt)
        clear kk okt c0 c1 c2 c3
        go_wp2_with (go_at_fn g; refine (C.out).mono ?_; rintro e w3 ⟨rfl, j3⟩; have J3 := Lib.hid (show J (PP (k + 1)) w3 by rw [n1.out]; exact j3); clear j3)
        go_roundw
        case rel => exact ⟨k + 1, by omega, by go_num, J3⟩
        case measure => simp [intOf]; omega
    · obtain rfl : k = l.length := by omega
      go_wp2
      go_end0
      exact ⟨rfl, by rw [← GE.out]; exact JJ.out⟩
end Go.Proofs.YtfphmhdgnokopaaGreatDoor

namespace Go.Proofs.YtfphmhdgnokopaaGreatDoor
open Go.RowKit
set_option linter.unusedVariables false
set_option linter.unusedSimpArgs false
theorem full_ne {f : LF} (h : fullB f = true) : emptyF (famR f) = false := by unfold fullB at h; simpa using h
theorem dayR_len {F : Fam} (h : FLen 1000 F) : (dayR F).length ≤ 1000 := by
  cases F with
  | units k s => exact nf_bd (by rw [List.length_map]; exact unitsR_len h)
  | span s e => simp [dayR]
theorem span_days {s e : List R} (h : FOK (.span s e)) (h0 : emptyF (.span s e) = false) : memR s (leastR s) ∧ memR e (greatR e) ∧ 0 ≤ leastR s ∧ leastR s ≤ 3652424 ∧ 0 ≤ greatR e ∧ greatR e ≤ 3652424 := by
  have l0 : 0 < s.length := by have := of_decide_eq_false h0; omega
  have ss := setB_sane h.1
  have se := setB_sane h.2.1
  obtain ⟨m, hm, _⟩ := h.2.2.1 _ (least_mem ss l0)
  have m1 := least_mem ss l0
  have m2 := great_mem se (mem_pos hm)
  have b1 := setB_mem h.1 m1
  have b2 := setB_mem h.2.1 m2
  rw [cnt_zero] at b1 b2
  exact ⟨m1, m2, by omega, by omega, by omega, by omega⟩
theorem dayR_sane {F : Fam} (h : FOK F) (h0 : emptyF F = false) : I64R (dayR F) := by
  cases F with
  | units k s => exact sane_i64 (coverR_sane k s)
  | span s e =>
    obtain ⟨_, _, a, b, c, d⟩ := span_days h h0
    exact i64_one (by omega) (by omega) (by omega) (by omega)
theorem dayR_mem {F : Fam} (h : FOK F) (h0 : emptyF F = false) (d : Int) : memR (dayR F) d ↔ coversF F d = true := by
  cases F with
  | units k s =>
    unfold dayR coversF
    rw [coverR_mem, Bool.and_eq_true, has_mem (setB_sane h)]
    constructor
    · rintro ⟨o, m⟩
      exact ⟨o, by rw [ofV_yes o]; exact m⟩
    · rintro ⟨o, m⟩
      rw [ofV_yes o] at m
      exact ⟨o, m⟩
  | span s e =>
    obtain ⟨_, _, a, b, c, g⟩ := span_days h h0
    have h1 : decide (s.length = 0) = false := h0
    have e2 : coversF (.span s e) d = (!decide (s.length = 0) && (decide (leastR s ≤ d) && decide (d ≤ greatR e))) := rfl
    rw [e2, h1, show dayR (.span s e) = [(leastR s, greatR e)] from rfl, memR_one]
    simp only [Bool.not_false, Bool.true_and, Bool.and_eq_true, decide_eq_true_eq]
    omega
/-- the days of families, one behind the other -/
noncomputable def allR (l : List LF) : List R := l.flatMap fun f => dayR (famR f)
/-- the possible days -/
noncomputable def posR (l : List LF) : List R := nf (allR (l.filter fullB))
theorem allR_snoc (l : List LF) (f : LF) : allR (l ++ [f]) = allR l ++ dayR (famR f) := by unfold allR; simp
theorem allR_nil : allR [] = [] := rfl
theorem allR_len : ∀ {l : List LF}, LsOk l → (allR l).length ≤ 1000 * l.length := by
  intro l
  induction l with
  | nil => intro _; simp [allR]
  | cons f t ih =>
    intro h
    have h1 := h f List.mem_cons_self
    have h2 := ih (fun g hg => h g (List.mem_cons_of_mem _ hg))
    have h3 := dayR_len (famR_len h1.2.2.1 h1.2.2.2)
    unfold allR at h2 ⊢
    rw [List.flatMap_cons, List.length_append, List.length_cons]
    omega
theorem allR_i64 {l : List LF} (h : ∀ f ∈ l, fullB f = true) : I64R (allR l) := by
  intro r hr
  unfold allR at hr
  rw [List.mem_flatMap] at hr
  obtain ⟨f, hf, hr⟩ := hr
  exact dayR_sane (famR_ok f) (full_ne (h f hf)) r hr
theorem allR_mem {l : List LF} (h : ∀ f ∈ l, fullB f = true) (d : Int) : memR (allR l) d ↔ ∃ f ∈ l, coversF (famR f) d = true := by
  induction l with
  | nil => simp [allR, memR_nil]
  | cons f t ih =>
    have e : allR (f :: t) = dayR (famR f) ++ allR t := by unfold allR; rw [List.flatMap_cons]
    rw [e, memR_append, dayR_mem (famR_ok f) (full_ne (h f List.mem_cons_self)), ih (fun g hg => h g (List.mem_cons_of_mem _ hg))]
    simp
theorem full_covers {f : LF} {d : Int} (h : coversF (famR f) d = true) : fullB f = true := by
  obtain ⟨S, T, g, _⟩ := (covers_iff (famR_ok f) d).1 h
  exact full_of g
theorem filter_full (l : List LF) : ∀ f ∈ l.filter fullB, fullB f = true := fun f hf => (List.mem_filter.1 hf).2
theorem posB_iff (l : List LF) (d : Int) : posB l d = true ↔ ∃ f ∈ l, coversF (famR f) d = true := by unfold posB; rw [List.any_eq_true]
theorem posR_mem (l : List LF) (d : Int) : memR (posR l) d ↔ posB l d = true := by
  unfold posR
  rw [nf_mem, allR_mem (filter_full l), posB_iff]
  constructor
  · rintro ⟨f, hf, g⟩
    exact ⟨f, (List.mem_filter.1 hf).1, g⟩
  · rintro ⟨f, hf, g⟩
    exact ⟨f, List.mem_filter.2 ⟨hf, full_covers g⟩, g⟩
theorem posR_sane (l : List LF) : sane (posR l) := nf_sane _
theorem posR_has (l : List LF) (d : Int) : hasB (posR l) d = posB l d := by
  rw [Bool.eq_iff_iff, has_mem (posR_sane l), posR_mem]
theorem filter_ok {l : List LF} (h : LsOk l) : LsOk (l.filter fullB) := fun f hf => h f (List.mem_filter.1 hf).1
theorem filter_len (l : List LF) : (l.filter fullB).length ≤ l.length := List.length_filter_le _ _
theorem posR_len {l : List LF} (h : LsOk l) : (posR l).length ≤ 1000 * l.length := by
  have a := allR_len (filter_ok h)
  have b := filter_len l
  have c := nf_len (allR (l.filter fullB))
  unfold posR
  omega
theorem prefix_ok {l p : List LF} (h : LsOk l) (g : p <+: l) : LsOk p := fun f hf => h f (g.subset hf)
end Go.Proofs.YtfphmhdgnokopaaGreatDoor

namespace Go.Proofs.YtfphmhdgnokopaaGreatDoor
open Go.RowKit
set_option linter.unusedVariables false
set_option linter.unusedSimpArgs false
theorem no_full {l : List LF} (h : anyB l = false) : ∀ f ∈ l, fullB f = false := by
  unfold anyB at h
  rw [List.any_eq_false] at h
  intro f hf
  simpa using h f hf
theorem posB_none {l : List LF} (h : anyB l = false) (d : Int) : posB l d = false := by
  rw [Bool.eq_false_iff]
  intro c
  obtain ⟨f, hf, g⟩ := (posB_iff l d).1 c
  have := no_full h f hf
  rw [full_covers g] at this
  cases this
theorem posR_none {l : List LF} (h : anyB l = false) : posR l = [] := by
  refine no_mem (posR_sane l) fun m hm => ?_
  rw [posR_mem, posB_none h] at hm
  cases hm
theorem sureR_mem {l : List LF} (h : anyB l = true) (d : Int) : memR (sureR l) d ↔ (envF dGS max l).1 ≤ d ∧ d ≤ (envF dLE min l).1 := by
  have b := env_days h
  unfold sureR
  rw [if_pos h, nf_mem, memR_one]
  omega
theorem cerB_iff (l : List LF) (d : Int) : cerB l d = true ↔ anyB l = true ∧ ∀ f ∈ l, fullB f = true → dGS (famR f) ≤ d ∧ d ≤ dLE (famR f) := by
  unfold cerB
  rw [Bool.and_eq_true, has_mem (sureR_sane l)]
  constructor
  · rintro ⟨h, g⟩
    rw [sureR_mem h] at g
    refine ⟨h, fun f hf hb => ?_⟩
    have a := (env_max dGS l h).2.1 f hf hb
    have b := (env_min dLE l h).2.1 f hf hb
    omega
  · rintro ⟨h, g⟩
    refine ⟨h, (sureR_mem h d).2 ?_⟩
    obtain ⟨f, hf, hb, e⟩ := (env_max dGS l h).2.2
    obtain ⟨f', hf', hb', e'⟩ := (env_min dLE l h).2.2
    have := g f hf hb
    have := g f' hf' hb'
    omega
theorem cerB_none {l : List LF} (h : anyB l = false) (d : Int) : cerB l d = false := by
  unfold cerB; rw [h]; rfl
theorem sureR_none {l : List LF} (h : anyB l = false) : sureR l = [] := by
  unfold sureR; rw [if_neg (by rw [h]; decide)]
theorem sureR_has {l : List LF} (h : anyB l = true) (d : Int) : hasB (sureR l) d = cerB l d := by
  unfold cerB; rw [h]; rfl
theorem cer_pos {l : List LF} {d : Int} (h : cerB l d = true) : posB l d = true := by
  obtain ⟨a, g⟩ := (cerB_iff l d).1 h
  obtain ⟨f, hf, hb, _⟩ := (env_max dGS l a).2.2
  have h1 := g f hf hb
  obtain ⟨_, ⟨T, m⟩, _, _⟩ := days_met (famR_ok f) (full_ne hb)
  have h2 := days_bound (famR_ok f) m
  exact (posB_iff l d).2 ⟨f, hf, (covers_iff (famR_ok f) d).2 ⟨_, _, m, by omega, by omega⟩⟩
/-- every pair of every family has the day -/
theorem cerB_pairs (l : List LF) (d : Int) : cerB l d = true ↔ anyB l = true ∧ ∀ f ∈ l, ∀ S T, hasF (famR f) S T = true → S ≤ d ∧ d ≤ T := by
  rw [cerB_iff]
  constructor
  · rintro ⟨a, g⟩
    refine ⟨a, fun f hf S T m => ?_⟩
    have h1 := g f hf (full_of m)
    have h2 := days_bound (famR_ok f) m
    omega
  · rintro ⟨a, g⟩
    refine ⟨a, fun f hf hb => ?_⟩
    obtain ⟨_, ⟨T, m⟩, ⟨S, m'⟩, _⟩ := days_met (famR_ok f) (full_ne hb)
    have := g f hf _ _ m
    have := g f hf _ _ m'
    omega
theorem posB_pairs (l : List LF) (d : Int) : posB l d = true ↔ ∃ f ∈ l, ∃ S T, hasF (famR f) S T = true ∧ S ≤ d ∧ d ≤ T := by
  rw [posB_iff]
  constructor
  · rintro ⟨f, hf, g⟩
    exact ⟨f, hf, (covers_iff (famR_ok f) d).1 g⟩
  · rintro ⟨f, hf, g⟩
    exact ⟨f, hf, (covers_iff (famR_ok f) d).2 g⟩
theorem posB_append (l m : List LF) (d : Int) : posB (l ++ m) d = (posB l d || posB m d) := by unfold posB; rw [List.any_append]
theorem anyB_append (l m : List LF) : anyB (l ++ m) = (anyB l || anyB m) := by unfold anyB; rw [List.any_append]
theorem cerB_append (l m : List LF) (d : Int) : cerB (l ++ m) d = (cerB l d && cerB m d || cerB l d && !anyB m || cerB m d && !anyB l) := by
  rw [Bool.eq_iff_iff]
  simp only [Bool.or_eq_true, Bool.and_eq_true, Bool.not_eq_true', cerB_iff, anyB_append, List.mem_append]
  constructor
  · rintro ⟨a, g⟩
    have gl := fun f hf => g f (.inl hf)
    have gm := fun f hf => g f (.inr hf)
    rcases Bool.eq_false_or_eq_true (anyB l) with al | al
    · rcases Bool.eq_false_or_eq_true (anyB m) with am | am
      · exact .inl (.inl ⟨⟨al, gl⟩, am, gm⟩)
      · exact .inl (.inr ⟨⟨al, gl⟩, am⟩)
    · rcases Bool.eq_false_or_eq_true (anyB m) with am | am
      · exact .inr ⟨⟨am, gm⟩, al⟩
      · rw [al, am] at a; rcases a with a | a <;> cases a
  · rintro ((⟨⟨a, g⟩, b, h⟩ | ⟨⟨a, g⟩, b⟩) | ⟨⟨a, g⟩, b⟩)
    · exact ⟨.inl a, fun f hf => hf.elim (g f) (h f)⟩
    · exact ⟨.inl a, fun f hf hb => hf.elim (fun hf => g f hf hb) (fun hf => by have := no_full b f hf; rw [hb] at this; cases this)⟩
    · exact ⟨.inr a, fun f hf hb => hf.elim (fun hf => by have := no_full b f hf; rw [hb] at this; cases this) (fun hf => g f hf hb)⟩
/-- the first and the last possible day -/
theorem pos_ends {l : List LF} (h : anyB l = true) : posB l (envF dLS min l).1 = true ∧ posB l (envF dGE max l).1 = true ∧ 0 < (posR l).length ∧ leastR (posR l) = (envF dLS min l).1 ∧ greatR (posR l) = (envF dGE max l).1 := by
  obtain ⟨f, hf, hb, e⟩ := (env_min dLS l h).2.2
  obtain ⟨f', hf', hb', e'⟩ := (env_max dGE l h).2.2
  obtain ⟨⟨T, m⟩, _, _, _⟩ := days_met (famR_ok f) (full_ne hb)
  obtain ⟨_, _, _, ⟨S, m'⟩⟩ := days_met (famR_ok f') (full_ne hb')
  have w1 := hasF_le (famR_ok f) m
  have w2 := hasF_le (famR_ok f') m'
  have p1 : posB l (envF dLS min l).1 = true := (posB_pairs l _).2 ⟨f, hf, _, _, m, by omega, by omega⟩
  have p2 : posB l (envF dGE max l).1 = true := (posB_pairs l _).2 ⟨f', hf', _, _, m', by omega, by omega⟩
  have q1 := (posR_mem l _).2 p1
  have q2 := (posR_mem l _).2 p2
  have l0 := mem_pos q1
  have ss := posR_sane l
  have bd : ∀ n, memR (posR l) n → (envF dLS min l).1 ≤ n ∧ n ≤ (envF dGE max l).1 := by
    intro n hn
    obtain ⟨g, hg, S', T', mm, a, b⟩ := (posB_pairs l n).1 ((posR_mem l n).1 hn)
    have hbg := full_of mm
    have c := days_bound (famR_ok g) mm
    have c1 := (env_min dLS l h).2.1 g hg hbg
    have c2 := (env_max dGE l h).2.1 g hg hbg
    omega
  have a1 := least_min ss q1
  have a2 := bd _ (least_mem ss l0)
  have a3 := great_max ss q2
  have a4 := bd _ (great_mem ss l0)
  exact ⟨p1, p2, l0, by omega, by omega⟩
theorem wide_full {l : List LF} (h : 400 < (posR l).length) : anyB l = true := by
  rcases Bool.eq_false_or_eq_true (anyB l) with a | a
  · exact a
  · rw [posR_none a] at h; simp at h
theorem nf_left (a b : List R) : nf (nf a ++ b) = nf (a ++ b) := nf_congr fun n => by rw [memR_append, memR_append, nf_mem]
end Go.Proofs.YtfphmhdgnokopaaGreatDoor
