import Derived.Test.YtcooaoponkkpeaaGreatDoorGRefC
import Derived.Test.YtcooaoponkkpeaaGreatDoorGImgC
set_option maxHeartbeats 16000000
set_option maxRecDepth 100000
namespace Go.Proofs.YtcooaoponkkpeaaGreatDoor
open Go.RowKit
set_option linter.unusedVariables false
set_option linter.unusedSimpArgs false
theorem units_none (k : Int) : unitsR k [] = [] := by
 refine no_mem (unitsR_sane k []) fun m hm => ?_
 exact absurd ((unitsR_mem k [] m).1 hm).1 (memR_nil m)
theorem edg_none (V : Int → Int) (k : Int) : edgB k [] = true ∧ edgR V k [] = [] := by
 have e : edgB k [] = true := by
  unfold edgB
  rw [units_none]
  split <;> simp [nums]
 refine ⟨e, ?_⟩
 unfold edgR
 rw [if_pos e, units_none]
 split
 ·rfl
 ·rfl
theorem startsF_none {F : Fam} (h : emptyF F = true) (hF : FOK F) : startsB F = true ∧ startsR F = [] ∧ endsB F = true ∧ endsR F = [] := by
 cases F with
 | units k s =>
  have h1 : s = [] := List.length_eq_zero_iff.1 (of_decide_eq_true h)
  subst h1
  exact ⟨(edg_none (firV k) k).1, (edg_none (firV k) k).2, (edg_none (lasV k) k).1, (edg_none (lasV k) k).2⟩
 | span s e =>
  have h1 : s = [] := List.length_eq_zero_iff.1 (of_decide_eq_true h)
  subst h1
  have h2 : e = [] := no_mem (setB_sane hF.2.1) fun m hm => by
   obtain ⟨n, hn, _⟩ := hF.2.2.2 m hm
   exact memR_nil n hn
  subst h2
  exact ⟨rfl, rfl, rfl, rfl⟩
theorem rsome_any (v : Value) (s : List R) (w : World) (hv : RunsAt w v s) (hn : s.length ≤ 1000) :
  Calls Tryz.prog 119 #[v] w fun e w' => ∃ v', e = .returned (.tuple #[v', .bool (decide (s.length ≤ 400))]) ∧ RunsAt w' v' (if s.length ≤ 400 then s else []) ∧ Kp w w' := by
 have RS := Hd hv
 obtain ⟨ad, c, rfl⟩ := hv.slice
 clear hv
 have z := Hd (Kp.refl w)
 by_cases h4 : s.length ≤ 400
 ·have q0 : decide ((400 : Int) < (s.length : Int)) = false := dF
  have q1 : decide (400 < s.length) = false := dF
  rw [decide_eq_true h4, if_pos h4]
  clear h4
  go_enter Tryz.func119, Tryz.ntmps119
  go_wp2
  go_ret2
  exact ⟨_, rfl, RS.out, z.out⟩
 ·have q0 : decide ((400 : Int) < (s.length : Int)) = true := dT
  have q1 : decide (400 < s.length) = true := dT
  rw [decide_eq_false h4, if_neg h4]
  clear h4
  go_enter Tryz.func119, Tryz.ntmps119
  go_wp2
  go_ret2
  exact ⟨_, rfl, .inl ⟨_, _, rfl, rfl⟩, z.out⟩
theorem refStarts_u (k : Int) (s : List R) (f g : LF) (va vb : Value) (w : World) (h : LeafOk w f va vb) (hg : lfOf (famR f) = g) (hs : g = ⟨false, k, s, []⟩) :
  Calls Tryz.prog 61 #[leafV f va vb] w fun e w' => ∃ v, e = .returned (.tuple #[v, .bool (edgB k s)]) ∧ RunsAt w' v (edgR (firV k) k s) ∧ Kp w w' := by
 have C := Hd (fun w1 (kk : Kp w w1) => refTidy_any f va vb w1 (h.kp kk))
 rw [hg, hs] at C
 clear hg hs
 obtain ⟨sp, u, a, b⟩ := f
 obtain ⟨ad, ca, rfl⟩ := h.a.slice
 obtain ⟨bd, cb, rfl⟩ := h.b.slice
 simp only [leafV] at C ⊢
 have K0 := Hd (Kp.alloc w (.cells #[.bool sp, .int .i64 u, .slice ad a.length ca, .slice bd b.length cb] 44))
 clear h
 have CS := Hd (fun v w1 (r : RunsAt w1 v s) ii (hn : s.length ≤ 1000) => rstarts_any k v s w1 r ii (by omega))
 generalize edgB k s = q at *
 generalize edgR (firV k) k s = E at *
 go_enter Tryz.func61, Tryz.ntmps61
 go_wp2_with fail
 refine (C.out _ K0.out).mono ?_
 rintro e w1 ⟨ga, gb, rfl, okg, kk⟩
 obtain ⟨aa, c1', e1⟩ := okg.a.slice
 obtain ⟨ab, c2', e2⟩ := okg.b.slice
 simp only [List.length_nil] at e2
 subst e1 e2
 clear C
 obtain ⟨V, hV⟩ : ∃ x, x = w1.alloc (.cells #[.bool false, .int .i64 k, .slice aa s.length c1', .slice ab 0 c2'] 44) := ⟨_, rfl⟩
 have ka : Kp w1 V := by rw [hV]; exact Kp.alloc _ _
 have hgq : V.heap[w1.heap.size]? = some (.cells #[.bool false, .int .i64 k, .slice aa s.length c1', .slice ab 0 c2'] 44 (0, 0)) := by rw [hV]; exact heap_at _ _ _ rfl
 have g0 : V.cell? ⟨w1.heap.size, 0, none⟩ = some (.bool false) := by simp [World.cell?, hgq]
 have g1 : V.cell? ⟨w1.heap.size, 1, none⟩ = some (.int .i64 k) := by simp [World.cell?, hgq]
 have g2 : V.cell? ⟨w1.heap.size, 2, none⟩ = some (.slice aa s.length c1') := by simp [World.cell?, hgq]
 have g3 : V.cell? ⟨w1.heap.size, 3, none⟩ = some (.slice ab 0 c2') := by simp [World.cell?, hgq]
 have KV := Hd (K0.out.trans (kk.trans ka))
 have HV := Hd hV
 have OKV := Hd (okg.kp ka)
 have ZV := Hd (Kp.refl V)
 clear hV ka hgq kk okg
 go_wp2_with fail
 rw [← HV.out]
 refine (CS.out _ _ (OKV.out.a.kp (ky ZV.out)) OKV.out.ia OKV.out.na).mono ?_
 rintro e w2 ⟨v2, rfl, r2, kk⟩
 have R2 := Hd r2
 clear r2
 have KW := Hd ((show Kp V _ from (ky ZV.out)).trans kk)
 clear kk
 go_wp2
 exact bodyPost_ret (results_tmp2 rfl _ _ _) rfl ⟨_, rfl, R2.out, KV.out.trans KW.out⟩
theorem refStarts_s (s t : List R) (f g : LF) (va vb : Value) (w : World) (h : LeafOk w f va vb) (hg : lfOf (famR f) = g) (hs : g = ⟨true, 0, s, t⟩) :
  Calls Tryz.prog 61 #[leafV f va vb] w fun e w' => ∃ v, e = .returned (.tuple #[v, .bool (decide (s.length ≤ 400))]) ∧ RunsAt w' v (if s.length ≤ 400 then s else []) ∧ Kp w w' := by
 have C := Hd (fun w1 (kk : Kp w w1) => refTidy_any f va vb w1 (h.kp kk))
 rw [hg, hs] at C
 clear hg hs
 obtain ⟨sp, u, a, b⟩ := f
 obtain ⟨ad, ca, rfl⟩ := h.a.slice
 obtain ⟨bd, cb, rfl⟩ := h.b.slice
 simp only [leafV] at C ⊢
 have K0 := Hd (Kp.alloc w (.cells #[.bool sp, .int .i64 u, .slice ad a.length ca, .slice bd b.length cb] 44))
 clear h
 have CS := Hd (fun v w1 (r : RunsAt w1 v s) (hn : s.length ≤ 1000) => rsome_any v s w1 r hn)
 generalize decide (s.length ≤ 400) = q at *
 generalize (if s.length ≤ 400 then s else []) = E at *
 go_enter Tryz.func61, Tryz.ntmps61
 go_wp2_with fail
 refine (C.out _ K0.out).mono ?_
 rintro e w1 ⟨ga, gb, rfl, okg, kk⟩
 obtain ⟨aa, c1', e1⟩ := okg.a.slice
 obtain ⟨ab, c2', e2⟩ := okg.b.slice
 subst e1 e2
 clear C
 obtain ⟨V, hV⟩ : ∃ x, x = w1.alloc (.cells #[.bool true, .int .i64 0, .slice aa s.length c1', .slice ab t.length c2'] 44) := ⟨_, rfl⟩
 have ka : Kp w1 V := by rw [hV]; exact Kp.alloc _ _
 have hgq : V.heap[w1.heap.size]? = some (.cells #[.bool true, .int .i64 0, .slice aa s.length c1', .slice ab t.length c2'] 44 (0, 0)) := by rw [hV]; exact heap_at _ _ _ rfl
 have g0 : V.cell? ⟨w1.heap.size, 0, none⟩ = some (.bool true) := by simp [World.cell?, hgq]
 have g1 : V.cell? ⟨w1.heap.size, 1, none⟩ = some (.int .i64 0) := by simp [World.cell?, hgq]
 have g2 : V.cell? ⟨w1.heap.size, 2, none⟩ = some (.slice aa s.length c1') := by simp [World.cell?, hgq]
 have g3 : V.cell? ⟨w1.heap.size, 3, none⟩ = some (.slice ab t.length c2') := by simp [World.cell?, hgq]
 have KV := Hd (K0.out.trans (kk.trans ka))
 have HV := Hd hV
 have OKV := Hd (okg.kp ka)
 have ZV := Hd (Kp.refl V)
 clear hV ka hgq kk okg
 go_wp2_with fail
 rw [← HV.out]
 refine (CS.out _ _ (OKV.out.a.kp (ky ZV.out)) OKV.out.na).mono ?_
 rintro e w2 ⟨v2, rfl, r2, kk⟩
 have R2 := Hd r2
 clear r2
 have KW := Hd ((show Kp V _ from (ky ZV.out)).trans kk)
 clear kk
 go_wp2
 exact bodyPost_ret (results_tmp2 rfl _ _ _) rfl ⟨_, rfl, R2.out, KV.out.trans KW.out⟩
theorem refLStarts_any (f : LF) (va vb : Value) (w : World) (h : LeafOk w f va vb) :
  Calls Tryz.prog 61 #[leafV f va vb] w fun e w' => ∃ v, e = .returned (.tuple #[v, .bool (startsB (famR f))]) ∧ RunsAt w' v (startsR (famR f)) ∧ Kp w w' := by
 have hF := famR_ok f
 rcases Bool.eq_false_or_eq_true (emptyF (famR f)) with h0 | h0
 ·have e := startsF_none h0 hF
  rw [e.1, e.2.1]
  have := refStarts_u 0 [] f _ va vb w h rfl (lfOf_none h0)
  rw [(edg_none (firV 0) 0).1, (edg_none (firV 0) 0).2] at this
  exact this
 ·cases hf : famR f with
  | units k s =>
   rw [hf] at h0
   exact refStarts_u k s f _ va vb w h rfl (by rw [hf]; exact lfOf_u1 (of_decide_eq_false h0))
  | span s t =>
   rw [hf] at h0
   exact refStarts_s s t f _ va vb w h rfl (by rw [hf]; exact lfOf_s1 (of_decide_eq_false h0))
theorem refEnds_u (k : Int) (s : List R) (f g : LF) (va vb : Value) (w : World) (h : LeafOk w f va vb) (hg : lfOf (famR f) = g) (hs : g = ⟨false, k, s, []⟩) :
  Calls Tryz.prog 62 #[leafV f va vb] w fun e w' => ∃ v, e = .returned (.tuple #[v, .bool (edgB k s)]) ∧ RunsAt w' v (edgR (lasV k) k s) ∧ Kp w w' := by
 have C := Hd (fun w1 (kk : Kp w w1) => refTidy_any f va vb w1 (h.kp kk))
 rw [hg, hs] at C
 clear hg hs
 obtain ⟨sp, u, a, b⟩ := f
 obtain ⟨ad, ca, rfl⟩ := h.a.slice
 obtain ⟨bd, cb, rfl⟩ := h.b.slice
 simp only [leafV] at C ⊢
 have K0 := Hd (Kp.alloc w (.cells #[.bool sp, .int .i64 u, .slice ad a.length ca, .slice bd b.length cb] 44))
 clear h
 have CS := Hd (fun v w1 (r : RunsAt w1 v s) ii (hn : s.length ≤ 1000) => rends_any k v s w1 r ii (by omega))
 generalize edgB k s = q at *
 generalize edgR (lasV k) k s = E at *
 go_enter Tryz.func62, Tryz.ntmps62
 go_wp2_with fail
 refine (C.out _ K0.out).mono ?_
 rintro e w1 ⟨ga, gb, rfl, okg, kk⟩
 obtain ⟨aa, c1', e1⟩ := okg.a.slice
 obtain ⟨ab, c2', e2⟩ := okg.b.slice
 simp only [List.length_nil] at e2
 subst e1 e2
 clear C
 obtain ⟨V, hV⟩ : ∃ x, x = w1.alloc (.cells #[.bool false, .int .i64 k, .slice aa s.length c1', .slice ab 0 c2'] 44) := ⟨_, rfl⟩
 have ka : Kp w1 V := by rw [hV]; exact Kp.alloc _ _
 have hgq : V.heap[w1.heap.size]? = some (.cells #[.bool false, .int .i64 k, .slice aa s.length c1', .slice ab 0 c2'] 44 (0, 0)) := by rw [hV]; exact heap_at _ _ _ rfl
 have g0 : V.cell? ⟨w1.heap.size, 0, none⟩ = some (.bool false) := by simp [World.cell?, hgq]
 have g1 : V.cell? ⟨w1.heap.size, 1, none⟩ = some (.int .i64 k) := by simp [World.cell?, hgq]
 have g2 : V.cell? ⟨w1.heap.size, 2, none⟩ = some (.slice aa s.length c1') := by simp [World.cell?, hgq]
 have g3 : V.cell? ⟨w1.heap.size, 3, none⟩ = some (.slice ab 0 c2') := by simp [World.cell?, hgq]
 have KV := Hd (K0.out.trans (kk.trans ka))
 have HV := Hd hV
 have OKV := Hd (okg.kp ka)
 have ZV := Hd (Kp.refl V)
 clear hV ka hgq kk okg
 go_wp2_with fail
 rw [← HV.out]
 refine (CS.out _ _ (OKV.out.a.kp (ky ZV.out)) OKV.out.ia OKV.out.na).mono ?_
 rintro e w2 ⟨v2, rfl, r2, kk⟩
 have R2 := Hd r2
 clear r2
 have KW := Hd ((show Kp V _ from (ky ZV.out)).trans kk)
 clear kk
 go_wp2
 exact bodyPost_ret (results_tmp2 rfl _ _ _) rfl ⟨_, rfl, R2.out, KV.out.trans KW.out⟩
theorem refEnds_s (s t : List R) (f g : LF) (va vb : Value) (w : World) (h : LeafOk w f va vb) (hg : lfOf (famR f) = g) (hs : g = ⟨true, 0, s, t⟩) :
  Calls Tryz.prog 62 #[leafV f va vb] w fun e w' => ∃ v, e = .returned (.tuple #[v, .bool (decide (t.length ≤ 400))]) ∧ RunsAt w' v (if t.length ≤ 400 then t else []) ∧ Kp w w' := by
 have C := Hd (fun w1 (kk : Kp w w1) => refTidy_any f va vb w1 (h.kp kk))
 rw [hg, hs] at C
 clear hg hs
 obtain ⟨sp, u, a, b⟩ := f
 obtain ⟨ad, ca, rfl⟩ := h.a.slice
 obtain ⟨bd, cb, rfl⟩ := h.b.slice
 simp only [leafV] at C ⊢
 have K0 := Hd (Kp.alloc w (.cells #[.bool sp, .int .i64 u, .slice ad a.length ca, .slice bd b.length cb] 44))
 clear h
 have CS := Hd (fun v w1 (r : RunsAt w1 v t) (hn : t.length ≤ 1000) => rsome_any v t w1 r hn)
 generalize decide (t.length ≤ 400) = q at *
 generalize (if t.length ≤ 400 then t else []) = E at *
 go_enter Tryz.func62, Tryz.ntmps62
 go_wp2_with fail
 refine (C.out _ K0.out).mono ?_
 rintro e w1 ⟨ga, gb, rfl, okg, kk⟩
 obtain ⟨aa, c1', e1⟩ := okg.a.slice
 obtain ⟨ab, c2', e2⟩ := okg.b.slice
 subst e1 e2
 clear C
 obtain ⟨V, hV⟩ : ∃ x, x = w1.alloc (.cells #[.bool true, .int .i64 0, .slice aa s.length c1', .slice ab t.length c2'] 44) := ⟨_, rfl⟩
 have ka : Kp w1 V := by rw [hV]; exact Kp.alloc _ _
 have hgq : V.heap[w1.heap.size]? = some (.cells #[.bool true, .int .i64 0, .slice aa s.length c1', .slice ab t.length c2'] 44 (0, 0)) := by rw [hV]; exact heap_at _ _ _ rfl
 have g0 : V.cell? ⟨w1.heap.size, 0, none⟩ = some (.bool true) := by simp [World.cell?, hgq]
 have g1 : V.cell? ⟨w1.heap.size, 1, none⟩ = some (.int .i64 0) := by simp [World.cell?, hgq]
 have g2 : V.cell? ⟨w1.heap.size, 2, none⟩ = some (.slice aa s.length c1') := by simp [World.cell?, hgq]
 have g3 : V.cell? ⟨w1.heap.size, 3, none⟩ = some (.slice ab t.length c2') := by simp [World.cell?, hgq]
 have KV := Hd (K0.out.trans (kk.trans ka))
 have HV := Hd hV
 have OKV := Hd (okg.kp ka)
 have ZV := Hd (Kp.refl V)
 clear hV ka hgq kk okg
 go_wp2_with fail
 rw [← HV.out]
 refine (CS.out _ _ (OKV.out.b.kp (ky ZV.out)) OKV.out.nb).mono ?_
 rintro e w2 ⟨v2, rfl, r2, kk⟩
 have R2 := Hd r2
 clear r2
 have KW := Hd ((show Kp V _ from (ky ZV.out)).trans kk)
 clear kk
 go_wp2
 exact bodyPost_ret (results_tmp2 rfl _ _ _) rfl ⟨_, rfl, R2.out, KV.out.trans KW.out⟩
theorem refLEnds_any (f : LF) (va vb : Value) (w : World) (h : LeafOk w f va vb) :
  Calls Tryz.prog 62 #[leafV f va vb] w fun e w' => ∃ v, e = .returned (.tuple #[v, .bool (endsB (famR f))]) ∧ RunsAt w' v (endsR (famR f)) ∧ Kp w w' := by
 have hF := famR_ok f
 rcases Bool.eq_false_or_eq_true (emptyF (famR f)) with h0 | h0
 ·have e := startsF_none h0 hF
  rw [e.2.2.1, e.2.2.2]
  have := refEnds_u 0 [] f _ va vb w h rfl (lfOf_none h0)
  rw [(edg_none (lasV 0) 0).1, (edg_none (lasV 0) 0).2] at this
  exact this
 ·cases hf : famR f with
  | units k s =>
   rw [hf] at h0
   exact refEnds_u k s f _ va vb w h rfl (by rw [hf]; exact lfOf_u1 (of_decide_eq_false h0))
  | span s t =>
   rw [hf] at h0
   exact refEnds_s s t f _ va vb w h rfl (by rw [hf]; exact lfOf_s1 (of_decide_eq_false h0))
end Go.Proofs.YtcooaoponkkpeaaGreatDoor
