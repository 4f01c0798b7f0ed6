import Derived.Test.YtcooaoponkkpeaaGreatDoorNwF
import Derived.Test.YtcooaoponkkpeaaGreatDoorGLeafA
set_option maxHeartbeats 16000000
set_option maxRecDepth 100000
namespace Go.Proofs.YtcooaoponkkpeaaGreatDoor
open Go.RowKit
set_option linter.unusedVariables false
set_option linter.unusedSimpArgs false
theorem inter_dup {a b c : List R} (h : ∀ n, memR b n ↔ memR c n) : interR a b = interR a c :=
 sane_ext (interR_sane _ _) (interR_sane _ _) fun n => by rw [interR_mem, interR_mem, h]
theorem insR_len (k lo hi' : Int) : (insR k lo hi').length ≤ 1 := by
 unfold insR
 split
 ·exact nf_len _
 ·simp
theorem ins_len (k : Int) (K : List R) : (K.flatMap fun r => insR k r.1 r.2).length ≤ K.length := by
 induction K with
 | nil => simp
 | cons r t ih =>
  rw [List.flatMap_cons, List.length_append, List.length_cons]
  have := insR_len k r.1 r.2
  omega
theorem ins_i64 (k : Int) (K : List R) : I64R (K.flatMap fun r => insR k r.1 r.2) := fun q hq => by
 obtain ⟨r, _, hr⟩ := List.mem_flatMap.1 hq
 exact sane_i64 (insR_sane k r.1 r.2) q hr
noncomputable def insN (k : Int) (K : List R) (j : Nat) : List R := (K.take j).flatMap fun r => insR k r.1 r.2
theorem insN_next {k : Int} {K : List R} {j : Nat} (h : j < K.length) : insN k K (j + 1) = insN k K j ++ insR k (at_ K j).1 (at_ K j).2 := flat_next K (0, 0) (fun r => insR k r.1 r.2) j h
theorem insN_len (k : Int) (K : List R) (j : Nat) : (insN k K j).length ≤ j := Nat.le_trans (ins_len k _) (List.length_take_le _ _)
theorem sts_next {m : List LF} {k : Nat} (h : k < m.length) : stsL (m.take (k + 1)) = stsL (m.take k) ++ startsR (famR (lat m k)) := flat_next m _ (fun f => startsR (famR f)) k h
theorem ens_next {m : List LF} {k : Nat} (h : k < m.length) : ensL (m.take (k + 1)) = ensL (m.take k) ++ endsR (famR (lat m k)) := flat_next m _ (fun f => endsR (famR f)) k h
theorem sts_i64 (m : List LF) : I64R (stsL m) := fun r hr => by
 obtain ⟨f, _, hr⟩ := List.mem_flatMap.1 hr
 exact sane_i64 (starts_sane (famR_ok f)) r hr
theorem ens_i64 (m : List LF) : I64R (ensL m) := fun r hr => by
 obtain ⟨f, _, hr⟩ := List.mem_flatMap.1 hr
 exact sane_i64 (ends_sane (famR_ok f)) r hr
theorem apart_new {w w' : World} {b b' s s' n n' : Nat} {e e' : TypeId} {v u : Value} {xs ys : List Value} (h : w.ownsRow b e s v n xs) (g : w'.ownsRow b' e' s' u n' ys) (le : w.heap.size ≤ b') : Apart v u := fun k e1 e2 => by
 have h1 := (h.lt k e1).2
 have h2 := (g.lt k e2).1
 omega
abbrev nwuA0 : Oper := ⟨some 11, .fieldAddr 44 (.tmp 3) 2, 0, "narrow.go:80", #[], none⟩
abbrev nwuA1 : Oper := ⟨some 12, .load 34 (.tmp 11), 34, "narrow.go:80", #[⟨0, .data⟩], none⟩
abbrev nwuA2 : Oper := ⟨some 13, .fieldAddr 63 (.tmp 2) 0, 0, "narrow.go:80", #[], none⟩
abbrev nwuA3 : Oper := ⟨some 14, .load 34 (.tmp 13), 34, "narrow.go:80", #[⟨2, .data⟩], none⟩
abbrev nwuA4 : Oper := ⟨some 15, .fieldAddr 63 (.tmp 2) 1, 0, "narrow.go:80", #[], none⟩
abbrev nwuA5 : Oper := ⟨some 16, .load 34 (.tmp 15), 34, "narrow.go:80", #[⟨4, .data⟩], none⟩
abbrev nwuA6 : Oper := ⟨some 17, .call ⟨.value (.func 43), #[.tmp 14, .tmp 16], #[34, 34]⟩, 34, "narrow.go:80", #[⟨3, .data⟩, ⟨5, .data⟩], none⟩
abbrev nwuA7 : Oper := ⟨some 18, .call ⟨.value (.func 78), #[.tmp 12, .tmp 17], #[34, 34]⟩, 34, "narrow.go:80", #[⟨1, .data⟩, ⟨6, .data⟩, ⟨6, .chain⟩], none⟩
abbrev nwuA8 : Oper := ⟨some 4, .assign (.tmp 18), 34, "narrow.go:80", #[⟨7, .data⟩, ⟨7, .chain⟩, ⟨0, .phase⟩, ⟨1, .phase⟩, ⟨2, .phase⟩, ⟨3, .phase⟩, ⟨4, .phase⟩, ⟨5, .phase⟩, ⟨6, .phase⟩, ⟨7, .phase⟩], none⟩
theorem nwUnits0_any (K D a b : List R) (vi vd va vb : Value) (w : World) (hi' : RunsAt w vi K) (hd : RunsAt w vd D) (h : LeafOk w ⟨false, 0, a, b⟩ va vb) (T : Tabs w) (ik : I64R K) (id' : I64R D) (nK : K.length ≤ 100000) (nD : D.length ≤ 100000) :
  Calls Tryz.prog 77 #[.agg #[vi, vd], leafV ⟨false, 0, a, b⟩ va vb] w fun e w' => ∃ v, e = .returned v ∧ OwnR w' w.heap.size v (unsR K D ⟨false, 0, a, b⟩) ∧ Kp w w' := by
 obtain ⟨ai, ci, rfl⟩ := hi'.slice
 obtain ⟨aj, cj, rfl⟩ := hd.slice
 obtain ⟨aa, ca, rfl⟩ := h.a.slice
 obtain ⟨ab, cb, rfl⟩ := h.b.slice
 unfold leafV
 simp only
 have na : a.length ≤ 1000 := h.na
 have E := Hd (show unsR K D ⟨false, 0, a, b⟩ = interR a (nf (K ++ D)) from by unfold unsR; rw [if_pos rfl])
 have nn := nf_len (K ++ D)
 rw [List.length_append] at nn
 have UN := Hd (fun w1 (k : Kp w w1) => union_any (.slice ai K.length ci) (.slice aj D.length cj) K D w1 (hi'.kp k) (hd.kp k) ik id' (by omega))
 have ME := Hd (fun v w1 (k : Kp w w1) (hv : RunsAt w1 v (nf (K ++ D))) => meet_any (.slice aa a.length ca) v a _ w1 (h.a.kp k) hv h.ia (sane_i64 (nf_sane _)) (by omega) (by omega))
 rw [E.out]
 generalize interR a (nf (K ++ D)) = M at *
 generalize nf (K ++ D) = U at *
 have u0 : ((0 : Int) == 0) = true := rfl
 clear hi' hd h T ik id' nn E
 obtain ⟨v0, hV⟩ : ∃ x, x = (w.alloc (.cells #[.slice ai K.length ci, .slice aj D.length cj] 63)).alloc (.cells #[.bool false, .int .i64 0, .slice aa a.length ca, .slice ab b.length cb] 44) := ⟨_, rfl⟩
 have ka : Kp w v0 := by rw [hV]; exact (Kp.alloc _ _).trans (Kp.alloc _ _)
 have gq0 : v0.heap[w.heap.size]? = some (.cells #[.slice ai K.length ci, .slice aj D.length cj] 63 (0, 0)) := by rw [hV]; exact heap_block (Kp.alloc _ _) (heap_at _ _ _ (by first | rfl | simp))
 have gq1 : v0.heap[w.heap.size + 1]? = some (.cells #[.bool false, .int .i64 0, .slice aa a.length ca, .slice ab b.length cb] 44 (0, 0)) := by rw [hV]; exact heap_at _ _ _ (by first | rfl | simp)
 have KS := Hd (fun w' (kq : Kp v0 w') => show w'.cell? ⟨w.heap.size, 0, none⟩ = some (.slice ai K.length ci) ∧ w'.cell? ⟨w.heap.size, 1, none⟩ = some (.slice aj D.length cj) ∧ w'.cell? ⟨w.heap.size + 1, 0, none⟩ = some (.bool false) ∧ w'.cell? ⟨w.heap.size + 1, 1, none⟩ = some (.int .i64 0) ∧ w'.cell? ⟨w.heap.size + 1, 2, none⟩ = some (.slice aa a.length ca) ∧ w'.cell? ⟨w.heap.size + 1, 3, none⟩ = some (.slice ab b.length cb) ∧ Kp v0 w' from ⟨(row2 (heap_block kq gq0)).1, (row2 (heap_block kq gq0)).2, (row4 (heap_block kq gq1)).1, (row4 (heap_block kq gq1)).2.1, (row4 (heap_block kq gq1)).2.2.1, (row4 (heap_block kq gq1)).2.2.2, kq⟩)
 have GQ0 := Hd gq0
 have GQ1 := Hd gq1
 have HV := Hd hV
 have KA := Hd ka
 clear hV ka gq0 gq1
 have kkv0 : Kp v0 v0 := Kp.refl _
 go_enter Tryz.func77, Tryz.ntmps77
 go_upto_region 2 with fail
 rw [← HV.out]
 clear HV
 refine wp_region_held_drew (S := fun w' => w'.cell? ⟨w.heap.size, 0, none⟩ = some (.slice ai K.length ci) ∧ w'.cell? ⟨w.heap.size, 1, none⟩ = some (.slice aj D.length cj) ∧ w'.cell? ⟨w.heap.size + 1, 0, none⟩ = some (.bool false) ∧ w'.cell? ⟨w.heap.size + 1, 1, none⟩ = some (.int .i64 0) ∧ w'.cell? ⟨w.heap.size + 1, 2, none⟩ = some (.slice aa a.length ca) ∧ w'.cell? ⟨w.heap.size + 1, 3, none⟩ = some (.slice ab b.length cb) ∧ Kp v0 w') (by kernel_rfl) ?_ (fun hHeld0 => ?_)
 ·(try dsimp only); exact KS.out _ (ky kkv0)
 refine tkv 0 nwuA0 ?_
 (try simp only [Act.put, nwuA0, xA, xB, xC])
 refine tkv 1 nwuA1 ?_
 (try simp only [Act.put, nwuA1, xA, xB, xC])
 refine tkv 2 nwuA2 ?_
 (try simp only [Act.put, nwuA2, xA, xB, xC])
 refine tkv 3 nwuA3 ?_
 (try simp only [Act.put, nwuA3, xA, xB, xC])
 refine tkv 4 nwuA4 ?_
 (try simp only [Act.put, nwuA4, xA, xB, xC])
 refine tkv 5 nwuA5 ?_
 (try simp only [Act.put, nwuA5, xA, xB, xC])
 refine tkE 6 nwuA6 rfl (by kernel_rfl) (fun K hK => ?_)
 go_simp
 (refine (UN.out _ (KA.out.trans (ky kkv0))).mono ?_; rintro e wa ⟨v1, rfl, o1, kq1⟩; have kkwa : Kp v0 wa := Kp.trans (show Kp v0 _ from (ky kkv0)) kq1; obtain ⟨a1, l1, rfl⟩ := own_slice o1; have O1 := Hd (runsAt_own o1); clear o1; clear kq1)
 (try go_wp2_with fail)
 refine hK.out _ _ ?_ (fun hHeld1 => ?_)
 ·(try dsimp only); exact KS.out _ (ky kkwa)
 clear hK K hHeld0
 (try simp only [Act.put, nwuA6, xA, xB, xC])
 refine tkE 7 nwuA7 rfl (by kernel_rfl) (fun K hK => ?_)
 go_simp
 (refine (ME.out _ _ (KA.out.trans (ky kkwa)) (O1.out.kp (ky (Kp.refl wa)))).mono ?_; rintro e wb ⟨v2, rfl, o2, kq1⟩; have kkwb : Kp v0 wb := Kp.trans (show Kp v0 _ from (ky kkwa)) kq1; have O2 := Hd (own_mono o2 (Below.size (show Kp w _ from KA.out.trans (ky kkwa)))); clear o2 kq1)
 (try go_wp2_with fail)
 refine hK.out _ _ ?_ (fun hHeld2 => ?_)
 ·(try dsimp only); exact KS.out _ (ky kkwb)
 clear hK K hHeld1
 (try simp only [Act.put, nwuA7, xA, xB, xC])
 refine tkv 8 nwuA8 ?_
 (try simp only [Act.put, nwuA8, xA, xB, xC])
 refine wpAnyH_done (by kernel_rfl) ?_ _
 go_wp2
 go_ret
 exact ⟨_, rfl, own_kp O2.out (ky (Kp.refl wb)), KA.out.trans (ky kkwb)⟩
theorem nwUnitsU_any (K D a b : List R) (u : Int) (hu : u ≠ 0) (vi vd va vb : Value) (w : World) (hi' : RunsAt w vi K) (hd : RunsAt w vd D) (h : LeafOk w ⟨false, u, a, b⟩ va vb) (T : Tabs w) (ik : I64R K) (id' : I64R D) (nK : K.length ≤ 100000) (nD : D.length ≤ 100000) :
  Calls Tryz.prog 77 #[.agg #[vi, vd], leafV ⟨false, u, a, b⟩ va vb] w fun e w' => ∃ v, e = .returned v ∧ OwnR w' w.heap.size v (unsR K D ⟨false, u, a, b⟩) ∧ Kp w w' := by
 obtain ⟨ai, ci, rfl⟩ := hi'.slice
 obtain ⟨aj, cj, rfl⟩ := hd.slice
 obtain ⟨aa, ca, rfl⟩ := h.a.slice
 obtain ⟨ab, cb, rfl⟩ := h.b.slice
 unfold leafV
 simp only
 have na : a.length ≤ 1000 := h.na
 obtain ⟨i0, hi, hz0, hz1, hz2⟩ := info_parts infoR
 have E := Hd (show unsR K D ⟨false, u, a, b⟩ = interR a (insN u K K.length) from by unfold unsR insN; rw [if_neg hu, List.take_length])
 have IL := Hd (fun j => insN_len u K j)
 have IK := Hd ik
 have TT := Hd T
 have HI := Hd hi'
 have ME := Hd (fun v w1 (k : Kp w w1) (hv : RunsAt w1 v (insN u K K.length)) => meet_any (.slice aa a.length ca) v a _ w1 (h.a.kp k) hv h.ia (ins_i64 u _) (by omega) (by have := insN_len u K K.length; omega))
 rw [E.out]
 generalize interR a (insN u K K.length) = M at *
 have u0 : (u == 0) = false := beq_eq_false_iff_ne.2 hu
 clear hi' hd h T ik id' E hu
 obtain ⟨v0, hV⟩ : ∃ x, x = (w.alloc (.cells #[.slice ai K.length ci, .slice aj D.length cj] 63)).alloc (.cells #[.bool false, .int .i64 u, .slice aa a.length ca, .slice ab b.length cb] 44) := ⟨_, rfl⟩
 have ka : Kp w v0 := by rw [hV]; exact (Kp.alloc _ _).trans (Kp.alloc _ _)
 have gq0 : v0.heap[w.heap.size]? = some (.cells #[.slice ai K.length ci, .slice aj D.length cj] 63 (0, 0)) := by rw [hV]; exact heap_block (Kp.alloc _ _) (heap_at _ _ _ (by first | rfl | simp))
 have gq1 : v0.heap[w.heap.size + 1]? = some (.cells #[.bool false, .int .i64 u, .slice aa a.length ca, .slice ab b.length cb] 44 (0, 0)) := by rw [hV]; exact heap_at _ _ _ (by first | rfl | simp)
 have KS := Hd (fun w' (kq : Kp v0 w') => show w'.cell? ⟨w.heap.size, 0, none⟩ = some (.slice ai K.length ci) ∧ w'.cell? ⟨w.heap.size, 1, none⟩ = some (.slice aj D.length cj) ∧ w'.cell? ⟨w.heap.size + 1, 0, none⟩ = some (.bool false) ∧ w'.cell? ⟨w.heap.size + 1, 1, none⟩ = some (.int .i64 u) ∧ w'.cell? ⟨w.heap.size + 1, 2, none⟩ = some (.slice aa a.length ca) ∧ w'.cell? ⟨w.heap.size + 1, 3, none⟩ = some (.slice ab b.length cb) ∧ Kp v0 w' from ⟨(row2 (heap_block kq gq0)).1, (row2 (heap_block kq gq0)).2, (row4 (heap_block kq gq1)).1, (row4 (heap_block kq gq1)).2.1, (row4 (heap_block kq gq1)).2.2.1, (row4 (heap_block kq gq1)).2.2.2, kq⟩)
 have GQ0 := Hd gq0
 have GQ1 := Hd gq1
 have HV := Hd hV
 have KA := Hd ka
 clear hV ka gq0 gq1
 have kkv0 : Kp v0 v0 := Kp.refl _
 go_enter Tryz.func77, Tryz.ntmps77
 go_wp2_with fail
 rw [← HV.out]
 clear HV
 obtain ⟨x0, x1, x2, x3, x4, x5, _⟩ := KS.out _ kkv0
 go_wp2_with fail
 go_loopw [5, 22] (fun v i wr => ∃ j : Nat, j ≤ K.length ∧ i = .int .i64 j ∧ Hid (OwnR wr v0.heap.size v (insN u K j)) ∧ Hid (Kp v0 wr)) (fun _ i _ => K.length - (intOf i).toNat)
 case atStart => exact ⟨0, Nat.zero_le _, rfl, Hd (World.ownsRow_nil _ _ _ _), Hd (Kp.refl _)⟩
 case round =>
  obtain ⟨j, hj, rfl, O5, J⟩ := hrel
  have o5 := O5.out
  have n5b := IL.out j
  unfold OwnR at o5
  obtain ⟨a5, l5, rfl⟩ := own_slice o5
  clear x0 x1 x2 x3 x4 x5
  by_cases hlt : j < K.length
  ·have q2 : decide ((j : Int) < (K.length : Int)) = true := dT
   have q3 : decide (j < K.length) = true := decide_eq_true hlt
   rcases (HI.out.kp (KA.out.trans J.out)) with ⟨_, _, _, e⟩ | ⟨b1, off1, cap1, ev, hc1, hm1, hx1⟩
   ·rw [e] at hlt; simp at hlt
   obtain ⟨r1, r2⟩ := hx1 j hlt
   cases ev
   obtain ⟨z5, z6, z7, z8⟩ := IK.out _ (at_mem hlt)
   obtain ⟨lo, hi0, elo⟩ : ∃ x y, at_ K j = (x, y) := ⟨_, _, rfl⟩
   have NX := insN_next (k := u) hlt
   rw [elo] at r1 r2 NX z5 z6 z7 z8
   simp only at r1 r2 NX z5 z6 z7 z8
   have z1 : (0 : Int) ≤ (j : Int) := by omega
   have z2 : (j : Int) < K.length := by omega
   have INS := Hd (fun w1 (kk : Kp w w1) => inside_any u lo hi0 w1 (TT.out.kp kk) z5 z8)
   have li := insR_len u lo hi0
   generalize insR u lo hi0 = I1 at *
   generalize insN u K j = X at *
   obtain ⟨n5, hn5⟩ : ∃ x, X.length = x := ⟨_, rfl⟩
   rw [hn5] at o5 n5b ⊢
   have HN5 := Hd hn5
   have HNX := Hd NX
   have n6 : n5 ≤ 100000 := by omega
   have kkVV : Kp v0 (wr.alloc (.cells #[.int .i64 lo, .int .i64 hi0] 42)) := J.out.trans (Kp.alloc _ _)
   clear hx1 hc1 elo NX hn5 n5b
   obtain ⟨V, hVv⟩ : ∃ x, x = wr.alloc (.cells #[.int .i64 lo, .int .i64 hi0] 42) := ⟨_, rfl⟩
   have kav : Kp wr V := by rw [hVv]; exact Kp.alloc _ _
   have gqv0 : V.heap[wr.heap.size]? = some (.cells #[.int .i64 lo, .int .i64 hi0] 42 (0, 0)) := by rw [hVv]; exact heap_at _ _ _ (by first | rfl | simp)
   rw [← hVv] at kkVV
   have KSv := Hd (fun w' (kq : Kp V w') => show w'.cell? ⟨wr.heap.size, 0, none⟩ = some (.int .i64 lo) ∧ w'.cell? ⟨wr.heap.size, 1, none⟩ = some (.int .i64 hi0) ∧ w'.cell? ⟨w.heap.size, 0, none⟩ = some (.slice (some ⟨b1, off1, none⟩) K.length ci) ∧ w'.cell? ⟨w.heap.size, 1, none⟩ = some (.slice aj D.length cj) ∧ w'.cell? ⟨w.heap.size + 1, 0, none⟩ = some (.bool false) ∧ w'.cell? ⟨w.heap.size + 1, 1, none⟩ = some (.int .i64 u) ∧ w'.cell? ⟨w.heap.size + 1, 2, none⟩ = some (.slice aa a.length ca) ∧ w'.cell? ⟨w.heap.size + 1, 3, none⟩ = some (.slice ab b.length cb) ∧ Kp V w' from ⟨(row2 (heap_block kq gqv0)).1, (row2 (heap_block kq gqv0)).2, cell_up kq (KS.out V kkVV).1, cell_up kq (KS.out V kkVV).2.1, cell_up kq (KS.out V kkVV).2.2.1, cell_up kq (KS.out V kkVV).2.2.2.1, cell_up kq (KS.out V kkVV).2.2.2.2.1, cell_up kq (KS.out V kkVV).2.2.2.2.2.1, kq⟩)
   have GQv0 := Hd gqv0
   have HVv := Hd hVv
   have KV := Hd kav
   clear hVv kav gqv0
   have kkV : Kp V V := Kp.refl _
   obtain ⟨xv0, xv1, xv2, xv3, xv4, xv5, xv6, xv7, _⟩ := KSv.out _ kkV
   have OW := Hd (own_kp o5 KV.out)
   have KWV := Hd (J.out.trans KV.out)
   have bs := Below.size KWV.out
   clear O5 o5
   go_upto_region 7 with fail
   rw [← HVv.out]
   clear HVv r1 r2
   go_wp2_with fail
   refine (INS.out _ (KA.out.trans (J.out.trans (KV.out.trans (ky kkV))))).mono ?_
   rintro e wa ⟨v1, rfl, o1, kq1⟩
   have kkwa : Kp V wa := Kp.trans (show Kp V _ from (ky kkV)) kq1
   obtain ⟨a1, l1, rfl⟩ := own_slice o1
   have OI := Hd o1
   clear o1
   clear kq1
   clear xv0 xv1 xv2 xv3 xv4 xv5 xv6 xv7
   obtain ⟨xv0, xv1, xv2, xv3, xv4, xv5, xv6, xv7, _⟩ := KSv.out _ kkwa
   go_wp2_with (at_builtin; refine wpList_app rfl (.tmp 26) (.tmp 33) 34 rfl v0.heap.size 42 i0 (.agg #[.int .i64 0, .int .i64 0]) 2 16 Tryz.underlying34 hi hz0 hz1 hz2 rfl (by decide) _ n5 (cellsR X) rfl (own_kp OW.out (ky kkwa)) _ I1.length (cellsR I1) rfl ((OwnR.runs OI.out).kp (ky (Kp.refl wa))).src (cellsR_length _) (cells_one _) (by unfold maxLen; omega) (by omega) (Nat.le_trans bs (Below.size (show Kp V _ from (ky kkwa)))) ?_; intro v7 w7 hown hgrow hat)
   go_roundw
   case rel => exact ⟨j + 1, by omega, by go_num, Hd (by rw [HNX.out]; have h := hown; rw [← HN5.out] at h; exact own_len h), Hd (Kp.grown (show Kp v0 _ from KWV.out.trans (ky kkwa)) hgrow (fun j hj => (OW.out.lt j hj).1))⟩
   case measure => simp [intOf]; omega
  ·have q2 : decide ((j : Int) < (K.length : Int)) = false := dF
   have q3 : decide (j < K.length) = false := dF
   obtain rfl : j = K.length := by omega
   have RX := Hd (OwnR.runs O5.out)
   generalize insN u K K.length = X at *
   obtain ⟨x0, x1, x2, x3, x4, x5, _⟩ := KS.out _ J.out
   go_wp2_with fail
   refine (ME.out _ _ (KA.out.trans J.out) RX.out).mono ?_
   rintro e w3 ⟨v3, rfl, o3, k3⟩
   go_wp2
   go_ret
   exact ⟨_, rfl, own_mono o3 (Below.size (KA.out.trans J.out)), KA.out.trans (J.out.trans k3)⟩
theorem nwIsWide_any (v : Value) (m : List LF) (w : World) (hv : LeavesAt w v m) (hl : LsOk m) (T : Tabs w) (n1 : (stsL m).length ≤ 1000000) (n2 : (ensL m).length ≤ 1000000) :
  Calls Tryz.prog 37 #[v] w fun e w' => e = .returned (.bool (wideB m)) ∧ Kp w w' := by
 obtain ⟨i0, hi, hz0, hz1, hz2⟩ := info_parts infoR
 have hm := hv.len
 unfold maxLen at hm
 obtain ⟨ad, cp, rfl⟩ := hv.slice
 have HV := Hd hv
 have HL := Hd hl
 have TT := Hd T
 have NR3 := Hd (fun k => Nat.le_trans (flat_pre m (fun f => startsR (famR f)) k) n1)
 have NR4 := Hd (fun k => Nat.le_trans (flat_pre m (fun f => endsR (famR f)) k) n2)
 have W1 := Hd (fun v w1 (h : RunsAt w1 v (stsL m)) => wide_any v _ w1 h (sts_i64 m) n1)
 have W2 := Hd (fun v w1 (h : RunsAt w1 v (ensL m)) => wide_any v _ w1 h (ens_i64 m) n2)
 have E := Hd (show wideB m = (decide (400 < (nf (stsL m)).length) || decide (400 < (nf (ensL m)).length)) from rfl)
 generalize decide (400 < (nf (stsL m)).length) = p at *
 generalize decide (400 < (nf (ensL m)).length) = q at *
 generalize wideB m = r at *
 clear hv hl T n1 n2
 go_enter Tryz.func37, Tryz.ntmps37
 go_wp2_with fail
 go_loopw [3, 4, 12] (fun v u i wr => ∃ k : Nat, k ≤ m.length ∧ i = .int .i64 k ∧ Hid (OwnR wr w.heap.size v (stsL (m.take k))) ∧ Hid (OwnR wr w.heap.size u (ensL (m.take k))) ∧ Hid (Apart v u) ∧ Hid (Kp w wr)) (fun _ _ i _ => m.length - (intOf i).toNat)
 case atStart => exact ⟨0, Nat.zero_le _, rfl, Hd (World.ownsRow_nil _ _ _ _), Hd (World.ownsRow_nil _ _ _ _), Hd (Apart.nil _), Hd (Kp.refl _)⟩
 case round =>
  obtain ⟨k, hk, rfl, O3, O4, AP, J⟩ := hrel
  have o3 := O3.out
  have o4 := O4.out
  unfold OwnR at o3 o4
  obtain ⟨a3, l3, rfl⟩ := own_slice o3
  obtain ⟨a4, l4, rfl⟩ := own_slice o4
  by_cases hlt : k < m.length
  ·have q2 : decide ((k : Int) < (m.length : Int)) = true := dT
   have q3 : decide (k < m.length) = true := decide_eq_true hlt
   rcases HV.out.kp J.out with ⟨_, _, _, e⟩ | ⟨b0, off, cap, ev, hc, hmx, hx⟩
   ·rw [e] at hlt; simp at hlt
   cases ev
   obtain ⟨va, vb, d0, d1, d2, d3, ra, rb⟩ := hx k hlt
   have LOK := HL.out _ (lat_mem hlt)
   obtain ⟨f, hf⟩ : ∃ f, lat m k = f := ⟨_, rfl⟩
   rw [hf] at d0 d1 ra rb
   (try rw [hf] at LOK)
   obtain ⟨sp, u, a, b⟩ := f
   simp only at d0 d1 ra rb
   (try simp only at LOK)
   obtain ⟨aa, ca, rfl⟩ := ra.slice
   obtain ⟨ab, cb, rfl⟩ := rb.slice
   have HF := Hd hf
   have z1 : (k : Int) < (m.length : Int) := by omega
   have z2 : (0 : Int) ≤ (k : Int) := by omega
   clear hx hc hmx hf
   have FO : LeafOk wr ⟨sp, u, a, b⟩ _ _ := ⟨ra, rb, LOK.1, LOK.2.1, LOK.2.2.1, LOK.2.2.2⟩
   have EG := Hd (fun w1 (kk : Kp wr w1) => nwEdges_any ⟨sp, u, a, b⟩ _ _ w1 (FO.kp kk) (TT.out.kp (J.out.trans kk)))
   rw [show leafV ⟨sp, u, a, b⟩ (.slice aa a.length ca) (.slice ab b.length cb) = .agg #[.bool sp, .int .i64 u, .slice aa a.length ca, .slice ab b.length cb] from rfl] at EG
   have RIN := sts_next hlt
   have RDN := ens_next hlt
   have n4' := NR3.out (k + 1)
   have n5' := NR4.out (k + 1)
   rw [show (m.take (k + 1)).flatMap (fun f => startsR (famR f)) = stsL (m.take (k + 1)) from rfl, RIN, List.length_append] at n4'
   rw [show (m.take (k + 1)).flatMap (fun f => endsR (famR f)) = ensL (m.take (k + 1)) from rfl, RDN, List.length_append] at n5'
   rw [HF.out] at RIN RDN n4' n5'
   have kkVV : Kp wr (wr.alloc (.cells #[.bool sp, .int .i64 u, .slice aa a.length ca, .slice ab b.length cb] 44)) := Kp.alloc _ _
   generalize stsL (m.take k) = X at *
   generalize ensL (m.take k) = D at *
   generalize startsR (famR ⟨sp, u, a, b⟩) = sF at *
   generalize endsR (famR ⟨sp, u, a, b⟩) = eF at *
   generalize okE ⟨sp, u, a, b⟩ = okf at *
   obtain ⟨x3, hn3⟩ : ∃ x, X.length = x := ⟨_, rfl⟩
   obtain ⟨x4, hn4⟩ : ∃ x, D.length = x := ⟨_, rfl⟩
   rw [hn3] at o3 n4' AP ⊢
   rw [hn4] at o4 n5' AP ⊢
   have HN3 := Hd hn3
   have HN4 := Hd hn4
   have NI := Hd RIN
   have ND := Hd RDN
   clear ra rb FO LOK HF NR3 NR4 O3 O4 hn3 hn4 HV HL TT W1 W2 RIN RDN E
   obtain ⟨V, hVv⟩ : ∃ x, x = wr.alloc (.cells #[.bool sp, .int .i64 u, .slice aa a.length ca, .slice ab b.length cb] 44) := ⟨_, rfl⟩
   have kav : Kp wr V := by rw [hVv]; exact Kp.alloc _ _
   have gqv0 : V.heap[wr.heap.size]? = some (.cells #[.bool sp, .int .i64 u, .slice aa a.length ca, .slice ab b.length cb] 44 (0, 0)) := by rw [hVv]; exact heap_at _ _ _ (by first | rfl | simp)
   rw [← hVv] at kkVV
   have KSv := Hd (fun w' (kq : Kp V w') => show w'.cell? ⟨wr.heap.size, 0, none⟩ = some (.bool sp) ∧ w'.cell? ⟨wr.heap.size, 1, none⟩ = some (.int .i64 u) ∧ w'.cell? ⟨wr.heap.size, 2, none⟩ = some (.slice aa a.length ca) ∧ w'.cell? ⟨wr.heap.size, 3, none⟩ = some (.slice ab b.length cb) ∧ Kp V w' from ⟨(row4 (heap_block kq gqv0)).1, (row4 (heap_block kq gqv0)).2.1, (row4 (heap_block kq gqv0)).2.2.1, (row4 (heap_block kq gqv0)).2.2.2, kq⟩)
   have GQv0 := Hd gqv0
   have HVv := Hd hVv
   have KV := Hd kav
   clear hVv kav gqv0
   have kkV : Kp V V := Kp.refl _
   obtain ⟨xv0, xv1, xv2, xv3, _⟩ := KSv.out _ kkV
   have OW3 := Hd (own_kp o3 KV.out)
   have OW4 := Hd (own_kp o4 KV.out)
   have KWV := Hd (J.out.trans KV.out)
   clear o3 o4
   go_upto_region 5 with fail
   rw [← HVv.out]
   clear HVv d0 d1 d2 d3
   go_wp2_with fail
   refine (EG.out _ (KV.out.trans (ky kkV))).mono ?_
   rintro e we ⟨v8, v9, rfl, o8, o9, kq1⟩
   have kkwe : Kp V we := Kp.trans (show Kp V _ from (ky kkV)) kq1
   obtain ⟨a8, l8, rfl⟩ := own_slice o8
   obtain ⟨a9, l9, rfl⟩ := own_slice o9
   have O8 := Hd o8
   have O9 := Hd o9
   have bV := Below.size (show Kp V _ from (ky (Kp.refl V)))
   clear o8 o9
   clear kq1
   clear xv0 xv1 xv2 xv3
   obtain ⟨xv0, xv1, xv2, xv3, _⟩ := KSv.out _ kkwe
   go_wp2_with (first | (at_builtin; refine wpList_app rfl (.tmp 22) (.tmp 23) 34 rfl w.heap.size 42 i0 (.agg #[.int .i64 0, .int .i64 0]) 2 16 Tryz.underlying34 hi hz0 hz1 hz2 rfl (by decide) _ x3 (cellsR X) rfl (own_kp OW3.out (show Kp V _ from (ky kkwe))) _ sF.length (cellsR sF) rfl (((OwnR.runs O8.out).kp (ky (Kp.refl we))).src) (cellsR_length _) (cells_one _) (by unfold maxLen; omega) (by omega) (Below.size (KWV.out.trans (ky kkwe))) ?_; intro v7 w5 hown hgrow hat; have G5 := Hd (Kp.grown (show Kp w _ from KWV.out.trans (ky kkwe)) hgrow (fun j hj => (OW3.out.lt j hj).1)); have P3 := Hd hown; have P4 := Hd (own_apart (own_kp OW4.out (show Kp V _ from (ky kkwe))) hgrow AP.out); have P9 := Hd (own_apart (own_kp O9.out (ky (Kp.refl we))) hgrow (apart_new OW3.out O9.out bV)); have AQ := Hd (apart_step AP.out (own_kp OW4.out (show Kp V _ from (ky kkwe))) hat); clear hown hgrow hat) | (at_builtin; refine wpList_app rfl (.tmp 25) (.tmp 26) 34 rfl w.heap.size 42 i0 (.agg #[.int .i64 0, .int .i64 0]) 2 16 Tryz.underlying34 hi hz0 hz1 hz2 rfl (by decide) _ x4 (cellsR D) rfl (P4.out) _ eF.length (cellsR eF) rfl ((OwnR.runs P9.out).src) (cellsR_length _) (cells_one _) (by unfold maxLen; omega) (by omega) (Below.size G5.out) ?_; intro v8 w6 hown hgrow hat; have G6 := Hd (Kp.grown G5.out hgrow (fun j hj => (P4.out.lt j hj).1)); have Q4 := Hd hown; have Q3 := Hd (own_apart P3.out hgrow AQ.out.symm); have AR := Hd (apart_step AQ.out.symm P3.out hat).symm; clear hown hgrow hat))
   go_roundw
   case rel => exact ⟨k + 1, by omega, by go_num, Hd (by rw [NI.out]; have h := Q3.out; rw [← HN3.out] at h; exact own_len h), Hd (by rw [ND.out]; have h := Q4.out; rw [← HN4.out] at h; exact own_len h), AR, G6⟩
   case measure => simp [intOf]; omega
  ·have q2 : decide ((k : Int) < (m.length : Int)) = false := dF
   have q3 : decide (k < m.length) = false := dF
   obtain rfl : k = m.length := by omega
   rw [List.take_length] at O3 O4 ⊢
   have R3 := Hd (OwnR.runs O3.out)
   have R4 := Hd (OwnR.runs O4.out)
   generalize stsL m = X at *
   generalize ensL m = D at *
   clear O3 O4 o3 o4 NR3 NR4 HV HL TT AP
   go_wp2_with fail
   refine (W1.out _ _ R3.out).mono ?_
   rintro e w1 ⟨rfl, k1⟩
   have K1 := Hd k1
   clear k1
   cases p with
   | true =>
    have er : r = true := E.out
    subst er
    clear E
    go_wp2
    go_ret
    exact ⟨rfl, J.out.trans K1.out⟩
   | false =>
    have er : r = q := E.out
    subst er
    clear E
    go_wp2_with fail
    refine (W2.out _ _ (R4.out.kp K1.out)).mono ?_
    rintro e w2 ⟨rfl, k2⟩
    go_wp2
    go_ret
    exact ⟨rfl, J.out.trans (K1.out.trans k2)⟩
theorem nwUnits_any (K D a b : List R) (u : Int) (vi vd va vb : Value) (w : World) (hi' : RunsAt w vi K) (hd : RunsAt w vd D) (h : LeafOk w ⟨false, u, a, b⟩ va vb) (T : Tabs w) (ik : I64R K) (id' : I64R D) (nK : K.length ≤ 100000) (nD : D.length ≤ 100000) :
  Calls Tryz.prog 77 #[.agg #[vi, vd], leafV ⟨false, u, a, b⟩ va vb] w fun e w' => ∃ v, e = .returned v ∧ OwnR w' w.heap.size v (unsR K D ⟨false, u, a, b⟩) ∧ Kp w w' := by
 by_cases hu : u = 0
 ·subst hu; exact nwUnits0_any K D a b vi vd va vb w hi' hd h T ik id' nK nD
 ·exact nwUnitsU_any K D a b u hu vi vd va vb w hi' hd h T ik id' nK nD
theorem leafTidyO_any (f : LF) (va vb : Value) (w : World) (h : LeafOk w f va vb) (T : Tabs w) :
  Calls Tryz.prog 45 #[leafV f va vb] w fun e w' => ∃ va' vb', e = .returned (leafV (lfOf (famR f)) va' vb') ∧ LeafOk w' (lfOf (famR f)) va' vb' ∧ Kp w w' ∧ ((lfOf (famR f)).sp = true → OwnR w' w.heap.size va' (lfOf (famR f)).a ∧ OwnR w' w.heap.size vb' (lfOf (famR f)).b) := by
 have C := Hd (fun w1 (kk : Kp w w1) => famO_any f va vb w1 (h.kp kk) (T.kp kk).2)
 have FK := famR_ok f
 have FL := famR_len h.na h.nb
 have BK := Hd (fun k s => famR_back (f := f) (k := k) (s := s))
 have HO := Hd h
 obtain ⟨sp, u, a, b⟩ := f
 obtain ⟨ad, ca, rfl⟩ := h.a.slice
 obtain ⟨bd, cb, rfl⟩ := h.b.slice
 unfold leafV at C
 rw [show leafV ⟨sp, u, a, b⟩ (.slice ad a.length ca) (.slice bd b.length cb) = .agg #[.bool sp, .int .i64 u, .slice ad a.length ca, .slice bd b.length cb] from rfl]
 simp only at C HO ⊢
 have K0 := Hd ((Kp.alloc w (.cells #[.bool sp, .int .i64 u, .slice ad a.length ca, .slice bd b.length cb] 44)).trans (Kp.alloc _ (.cells #[.bool false, .int .i64 0, .slice none 0 0, .slice none 0 0] 44)))
 generalize famR ⟨sp, u, a, b⟩ = F at *
 clear h T
 have h1 := asUU
 have h2 := asSU
 have h3 := asSS
 have h4 := asUS
 have h5 := isEU
 have h6 := isES
 cases F with
 | units k s =>
  by_cases h0 : s.length = 0
  ·have q : ((s.length : Int) == 0) = true := by rw [h0]; rfl
   rw [lfOf_u0 h0]
   clear h0 FK FL BK
   go_enter Tryz.func45, Tryz.ntmps45
   go_wp2_with fail
   refine (C.out _ K0.out).mono ?_
   rintro e w1 ⟨v, rfl, ⟨ad1, c1, rfl, RS⟩, kk⟩
   have hB := (kk.block (w.heap.size + 1) (by simp)).trans (heap_at (w.alloc _) (.cells #[.bool false, .int .i64 0, .slice none 0 0, .slice none 0 0] 44 (0, 0)) (w.heap.size + 1) (by simp))
   have s1 := kk.size
   simp at s1
   have z2 : ¬ w.heap.size + 1 = w1.heap.size := by omega
   have z3 : w.heap.size + 1 < w1.heap.size := by omega
   have z4 : ¬ w.heap.size = w1.heap.size := by omega
   have z5 : w.heap.size < w1.heap.size := by omega
   have r0 : w1.cell? ⟨w.heap.size + 1, 0, none⟩ = some (.bool false) := by simp [World.cell?, hB]
   have r1 : w1.cell? ⟨w.heap.size + 1, 1, none⟩ = some (.int .i64 0) := by simp [World.cell?, hB]
   have r2 : w1.cell? ⟨w.heap.size + 1, 2, none⟩ = some (.slice none 0 0) := by simp [World.cell?, hB]
   have r3 : w1.cell? ⟨w.heap.size + 1, 3, none⟩ = some (.slice none 0 0) := by simp [World.cell?, hB]
   have f0 : w1.frozen? ⟨w.heap.size + 1, 0, none⟩ = false := by simp [World.frozen?, hB]
   have f1 : w1.frozen? ⟨w.heap.size + 1, 1, none⟩ = false := by simp [World.frozen?, hB]
   have f2 : w1.frozen? ⟨w.heap.size + 1, 2, none⟩ = false := by simp [World.frozen?, hB]
   have f3 : w1.frozen? ⟨w.heap.size + 1, 3, none⟩ = false := by simp [World.frozen?, hB]
   have K1 := Hd (K0.out.trans kk)
   clear kk C
   go_wp2
   have RD1 := fun o => set4_read hB (.bool false) (.int .i64 0) (.slice none 0 0) (.slice none 0 0) (Kp.alloc _ o)
   have RD2 := fun o o' => set4_read hB (.bool false) (.int .i64 0) (.slice none 0 0) (.slice none 0 0) ((Kp.alloc _ o).trans (Kp.alloc _ o'))
   exact bodyPost_ret (v := .agg #[.bool false, .int .i64 0, .slice none 0 0, .slice none 0 0]) (by simp [results, Tryz.f45, go_sem, RD1, RD2]) rfl ⟨.slice none 0 0, .slice none 0 0, rfl, lf0_ok _, (set4_below K1.out (w.heap.size + 1) (by omega) _ _ _ _).trans kx, fun h => by cases h⟩
  ·have q : ((s.length : Int) == 0) = false := beq_eq_false_iff_ne.2 (by omega)
   have BB := BK.out k s rfl h0
   simp only [LF.mk.injEq] at BB
   obtain ⟨rfl, rfl, rfl, rfl⟩ := BB
   rw [lfOf_u1 h0]
   clear h0 FK FL BK
   have EB : ([] : List R).length = 0 := rfl
   rw [EB] at HO K0 C ⊢
   clear EB
   go_enter Tryz.func45, Tryz.ntmps45
   go_wp2_with fail
   refine (C.out _ K0.out).mono ?_
   rintro e w1 ⟨v, rfl, ⟨ad1, c1, rfl, RS⟩, kk⟩
   have hB := (kk.block (w.heap.size + 1) (by simp)).trans (heap_at (w.alloc _) (.cells #[.bool false, .int .i64 0, .slice none 0 0, .slice none 0 0] 44 (0, 0)) (w.heap.size + 1) (by simp))
   have s1 := kk.size
   simp at s1
   have z2 : ¬ w.heap.size + 1 = w1.heap.size := by omega
   have z3 : w.heap.size + 1 < w1.heap.size := by omega
   have z4 : ¬ w.heap.size = w1.heap.size := by omega
   have z5 : w.heap.size < w1.heap.size := by omega
   have r0 : w1.cell? ⟨w.heap.size + 1, 0, none⟩ = some (.bool false) := by simp [World.cell?, hB]
   have r1 : w1.cell? ⟨w.heap.size + 1, 1, none⟩ = some (.int .i64 0) := by simp [World.cell?, hB]
   have r2 : w1.cell? ⟨w.heap.size + 1, 2, none⟩ = some (.slice none 0 0) := by simp [World.cell?, hB]
   have r3 : w1.cell? ⟨w.heap.size + 1, 3, none⟩ = some (.slice none 0 0) := by simp [World.cell?, hB]
   have f0 : w1.frozen? ⟨w.heap.size + 1, 0, none⟩ = false := by simp [World.frozen?, hB]
   have f1 : w1.frozen? ⟨w.heap.size + 1, 1, none⟩ = false := by simp [World.frozen?, hB]
   have f2 : w1.frozen? ⟨w.heap.size + 1, 2, none⟩ = false := by simp [World.frozen?, hB]
   have f3 : w1.frozen? ⟨w.heap.size + 1, 3, none⟩ = false := by simp [World.frozen?, hB]
   have c0 := (Below.cell (p := ⟨w.heap.size, 0, none⟩) kk (by simp; omega)).trans (show _ = some (.bool false) by simp)
   have c1' := (Below.cell (p := ⟨w.heap.size, 1, none⟩) kk (by simp; omega)).trans (show _ = some (.int .i64 u) by simp)
   have c2 := (Below.cell (p := ⟨w.heap.size, 2, none⟩) kk (by simp; omega)).trans (show _ = some (.slice ad a.length ca) by simp)
   have c3 := (Below.cell (p := ⟨w.heap.size, 3, none⟩) kk (by simp; omega)).trans (show _ = some (.slice bd 0 cb) by simp)
   have K1 := Hd (K0.out.trans kk)
   clear kk C
   go_wp2
   have RD1 := fun o => set4_read hB (.bool false) (.int .i64 u) (.slice ad a.length ca) (.slice bd 0 cb) (Kp.alloc _ o)
   have RD2 := fun o o' => set4_read hB (.bool false) (.int .i64 u) (.slice ad a.length ca) (.slice bd 0 cb) ((Kp.alloc _ o).trans (Kp.alloc _ o'))
   exact bodyPost_ret (v := .agg #[.bool false, .int .i64 u, .slice ad a.length ca, .slice bd 0 cb]) (by simp [results, Tryz.f45, go_sem, RD1, RD2]) rfl ⟨_, _, rfl, HO.out.kp ((set4_below K1.out (w.heap.size + 1) (by omega) _ _ _ _).trans kx), (set4_below K1.out (w.heap.size + 1) (by omega) _ _ _ _).trans kx, fun h => by cases h⟩
 | span s e =>
  have ss := setB_sane FK.1
  have se := setB_sane FK.2.1
  by_cases h0 : s.length = 0
  ·have q : ((s.length : Int) == 0) = true := by rw [h0]; rfl
   rw [lfOf_s0 h0]
   clear h0 FK FL BK
   go_enter Tryz.func45, Tryz.ntmps45
   go_wp2_with fail
   refine (C.out _ K0.out).mono ?_
   rintro e w1 ⟨v, rfl, ⟨ad1, c1, bd1, d1, rfl, RS, RT⟩, kk⟩
   have hB := (kk.block (w.heap.size + 1) (by simp)).trans (heap_at (w.alloc _) (.cells #[.bool false, .int .i64 0, .slice none 0 0, .slice none 0 0] 44 (0, 0)) (w.heap.size + 1) (by simp))
   have s1 := kk.size
   simp at s1
   have z2 : ¬ w.heap.size + 1 = w1.heap.size := by omega
   have z3 : w.heap.size + 1 < w1.heap.size := by omega
   have z4 : ¬ w.heap.size = w1.heap.size := by omega
   have z5 : w.heap.size < w1.heap.size := by omega
   have r0 : w1.cell? ⟨w.heap.size + 1, 0, none⟩ = some (.bool false) := by simp [World.cell?, hB]
   have r1 : w1.cell? ⟨w.heap.size + 1, 1, none⟩ = some (.int .i64 0) := by simp [World.cell?, hB]
   have r2 : w1.cell? ⟨w.heap.size + 1, 2, none⟩ = some (.slice none 0 0) := by simp [World.cell?, hB]
   have r3 : w1.cell? ⟨w.heap.size + 1, 3, none⟩ = some (.slice none 0 0) := by simp [World.cell?, hB]
   have f0 : w1.frozen? ⟨w.heap.size + 1, 0, none⟩ = false := by simp [World.frozen?, hB]
   have f1 : w1.frozen? ⟨w.heap.size + 1, 1, none⟩ = false := by simp [World.frozen?, hB]
   have f2 : w1.frozen? ⟨w.heap.size + 1, 2, none⟩ = false := by simp [World.frozen?, hB]
   have f3 : w1.frozen? ⟨w.heap.size + 1, 3, none⟩ = false := by simp [World.frozen?, hB]
   have K1 := Hd (K0.out.trans kk)
   clear kk C
   go_wp2
   have RD1 := fun o => set4_read hB (.bool false) (.int .i64 0) (.slice none 0 0) (.slice none 0 0) (Kp.alloc _ o)
   have RD2 := fun o o' => set4_read hB (.bool false) (.int .i64 0) (.slice none 0 0) (.slice none 0 0) ((Kp.alloc _ o).trans (Kp.alloc _ o'))
   exact bodyPost_ret (v := .agg #[.bool false, .int .i64 0, .slice none 0 0, .slice none 0 0]) (by simp [results, Tryz.f45, go_sem, RD1, RD2]) rfl ⟨.slice none 0 0, .slice none 0 0, rfl, lf0_ok _, (set4_below K1.out (w.heap.size + 1) (by omega) _ _ _ _).trans kx, fun h => by cases h⟩
  ·have q : ((s.length : Int) == 0) = false := beq_eq_false_iff_ne.2 (by omega)
   rw [lfOf_s1 h0]
   have l1 := FL.1
   have l2 := FL.2
   clear h0 FK FL BK
   go_enter Tryz.func45, Tryz.ntmps45
   go_wp2_with fail
   refine (C.out _ K0.out).mono ?_
   rintro e w1 ⟨v, rfl, ⟨ad1, c1, bd1, d1, rfl, RS, RT⟩, kk⟩
   have hB := (kk.block (w.heap.size + 1) (by simp)).trans (heap_at (w.alloc _) (.cells #[.bool false, .int .i64 0, .slice none 0 0, .slice none 0 0] 44 (0, 0)) (w.heap.size + 1) (by simp))
   have s1 := kk.size
   simp at s1
   have z2 : ¬ w.heap.size + 1 = w1.heap.size := by omega
   have z3 : w.heap.size + 1 < w1.heap.size := by omega
   have z4 : ¬ w.heap.size = w1.heap.size := by omega
   have z5 : w.heap.size < w1.heap.size := by omega
   have r0 : w1.cell? ⟨w.heap.size + 1, 0, none⟩ = some (.bool false) := by simp [World.cell?, hB]
   have r1 : w1.cell? ⟨w.heap.size + 1, 1, none⟩ = some (.int .i64 0) := by simp [World.cell?, hB]
   have r2 : w1.cell? ⟨w.heap.size + 1, 2, none⟩ = some (.slice none 0 0) := by simp [World.cell?, hB]
   have r3 : w1.cell? ⟨w.heap.size + 1, 3, none⟩ = some (.slice none 0 0) := by simp [World.cell?, hB]
   have f0 : w1.frozen? ⟨w.heap.size + 1, 0, none⟩ = false := by simp [World.frozen?, hB]
   have f1 : w1.frozen? ⟨w.heap.size + 1, 1, none⟩ = false := by simp [World.frozen?, hB]
   have f2 : w1.frozen? ⟨w.heap.size + 1, 2, none⟩ = false := by simp [World.frozen?, hB]
   have f3 : w1.frozen? ⟨w.heap.size + 1, 3, none⟩ = false := by simp [World.frozen?, hB]
   have R1 := Hd RS
   have Q1 := Hd RT
   have HBB := Hd hB
   have lb : w.heap.size + 1 < ((w.alloc (.cells #[.bool sp, .int .i64 u, .slice ad a.length ca, .slice bd b.length cb] 44)).alloc (.cells #[.bool false, .int .i64 0, .slice none 0 0, .slice none 0 0] 44)).heap.size := by simp
   clear RS RT
   have K1 := Hd (K0.out.trans kk)
   clear kk C
   go_wp2
   have RD1 := fun o => set4_read hB (.bool true) (.int .i64 0) (.slice ad1 s.length c1) (.slice bd1 e.length d1) (Kp.alloc _ o)
   have RD2 := fun o o' => set4_read hB (.bool true) (.int .i64 0) (.slice ad1 s.length c1) (.slice bd1 e.length d1) ((Kp.alloc _ o).trans (Kp.alloc _ o'))
   exact bodyPost_ret (v := .agg #[.bool true, .int .i64 0, .slice ad1 s.length c1, .slice bd1 e.length d1]) (by simp [results, Tryz.f45, go_sem, RD1, RD2]) rfl ⟨_, _, rfl, ⟨((OwnR.runs R1.out).off HBB.out (set4_cell _ _ _ _ _ _)).kp kx, ((OwnR.runs Q1.out).off HBB.out (set4_cell _ _ _ _ _ _)).kp kx, sane_i64 ss, sane_i64 se, l1, l2⟩, (set4_below K1.out (w.heap.size + 1) (by omega) _ _ _ _).trans kx, fun _ => ⟨own_mono (own_kp (own_setB (own_setB (own_setB (own_setB R1.out lb 0 _) lb 1 _) lb 2 _) lb 3 _) kx) (Nat.le_trans (Nat.le_succ _) (Nat.le_of_lt lb)), own_mono (own_kp (own_setB (own_setB (own_setB (own_setB Q1.out lb 0 _) lb 1 _) lb 2 _) lb 3 _) kx) (Nat.le_trans (Nat.le_succ _) (Nat.le_of_lt lb))⟩⟩
end Go.Proofs.YtcooaoponkkpeaaGreatDoor
