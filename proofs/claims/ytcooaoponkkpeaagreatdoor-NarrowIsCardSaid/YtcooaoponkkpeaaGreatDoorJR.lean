import Derived.Test.YtcooaoponkkpeaaGreatDoorGRefC
import Derived.Test.YtcooaoponkkpeaaGreatDoorGImgC
set_option maxHeartbeats 16000000
set_option maxRecDepth 100000
namespace Go.Proofs.YtcooaoponkkpeaaGreatDoor
open Go.RowKit
set_option linter.unusedVariables false
set_option linter.unusedSimpArgs false
theorem hasF_span_as {f : LF} (h : leafB f = true) (hs : f.sp = true) (S T : Int) : hasF (famR f) S T = (decide (S ≤ T) && (hasB f.a S && hasB f.b T)) := by
 obtain ⟨_, ha, hb⟩ := leafB_span h hs
 rw [Bool.eq_iff_iff]
 simp only [Bool.and_eq_true, decide_eq_true_eq, has_mem (setB_sane ha), has_mem (setB_sane hb)]
 by_cases h0 : f.a.length = 0 ∨ f.b.length = 0
 ·rw [famR_none h hs h0, hasF_span (s := []) (e := []) trivial trivial]
  constructor
  ·rintro ⟨_, m, _⟩; exact absurd m (memR_nil S)
  ·rintro ⟨_, m, m'⟩
   have := mem_pos m
   have := mem_pos m'
   omega
 ·rw [famR_span h hs h0, hasF_span (interR_sane _ _) (interR_sane _ _), (span_mem h hs h0 S).1, (span_mem h hs h0 T).2]
  constructor
  ·rintro ⟨a, b, c⟩; exact ⟨a, b.1, c.1⟩
  ·rintro ⟨a, b, c⟩
   have := great_max (setB_sane hb) c
   have := least_min (setB_sane ha) b
   exact ⟨a, ⟨b, by omega⟩, c, by omega⟩
theorem beq_turn (x y : Int) : (x == y) = (y == x) := by
 by_cases h : x = y
 ·subst h; rfl
 ·rw [beq_eq_false_iff_ne.2 h, beq_eq_false_iff_ne.2 (Ne.symm h)]
theorem refHas_u (k : Int) (s : List R) (f : LF) (va vb : Value) (S T : Int) (w : World) (h : LeafOk w f va vb) (hg : asL f = ⟨false, k, s, []⟩) (ss : sane s) (b1 : -9223372036854775808 ≤ S) (b2 : S ≤ 9223372036854775807) :
  Calls Tryz.prog 48 #[leafV f va vb, .agg #[.int .i64 S, .int .i64 T]] w fun e w' => e = .returned (.bool (hasF (.units k s) S T)) ∧ Kp w w' := by
 have E : hasF (.units k s) S T = (okO k S && (hasB s (ofV k S) && ((S == firV k (ofV k S)) && (T == lasV k (ofV k S))))) := by
  rw [beq_turn S, beq_turn T]; rfl
 rw [E]
 clear E
 have C := Hd (fun w1 (kk : Kp w w1) => refAs_any f va vb w1 (h.kp kk))
 rw [hg] at C
 clear hg
 have CO := Hd (fun w1 => rof_any k S w1 b1 b2)
 have CH := Hd (fun ad c w1 (r : RunsAt w1 (.slice ad s.length c) s) (ii : I64R s) (hn : s.length ≤ 1000) => rhas_of (.slice ad s.length c) s (ofV k S) w1 (by have := asR_any _ s w1 r ii (by omega); rwa [nf_of_sane ss] at this) ss (by omega))
 have CF := Hd (fun w1 => rfirst_any k (ofV k S) w1)
 have CL := Hd (fun w1 => rlast_any k (ofV k S) w1)
 generalize okO k S = q at *
 generalize ofV k S = i at *
 generalize hasB s i = z at *
 generalize firV k i = x at *
 generalize lasV k i = y at *
 generalize okU k i = ou at *
 obtain ⟨t1, ht1⟩ : ∃ q, (S == x) = q := ⟨_, rfl⟩
 obtain ⟨t2, ht2⟩ : ∃ q, (T == y) = q := ⟨_, rfl⟩
 rw [ht1, ht2]
 clear ss
 obtain ⟨sp, u, a, b⟩ := f
 obtain ⟨ad, ca, rfl⟩ := h.a.slice
 obtain ⟨bd, cb, rfl⟩ := h.b.slice
 simp only [leafV] at C ⊢
 obtain ⟨W0, hW⟩ : ∃ x, x = (w.alloc (.cells #[.bool sp, .int .i64 u, .slice ad a.length ca, .slice bd b.length cb] 44)).alloc (.cells #[.int .i64 S, .int .i64 T] 31) := ⟨_, rfl⟩
 have k0 : Kp w W0 := by rw [hW]; exact (Kp.alloc _ _).trans (Kp.alloc _ _)
 have p0 : W0.cell? ⟨w.heap.size + 1, 0, none⟩ = some (.int .i64 S) := by rw [hW]; simp
 have p1 : W0.cell? ⟨w.heap.size + 1, 1, none⟩ = some (.int .i64 T) := by rw [hW]; simp
 have K0 := Hd k0
 have HW := Hd hW
 have P0 := Hd p0
 have P1 := Hd p1
 clear h hW k0 p0 p1
 go_enter Tryz.func48, Tryz.ntmps48
 go_wp2_with fail
 rw [← HW.out]
 refine (C.out _ K0.out).mono ?_
 rintro e w1 ⟨ga, gb, rfl, okg, kk⟩
 clear C
 obtain ⟨aa, c1', e1⟩ := okg.a.slice
 obtain ⟨ab, c2', e2⟩ := okg.b.slice
 simp only [List.length_nil] at e1 e2
 subst e1 e2
 have na := okg.na
 simp only at na
 obtain ⟨V, hV⟩ : ∃ x, x = w1.alloc (.cells #[.bool false, .int .i64 k, .slice aa s.length c1', .slice ab 0 c2'] 44) := ⟨_, rfl⟩
 have ka : Kp w1 V := by rw [hV]; exact Kp.alloc _ _
 have hgq : V.heap[w1.heap.size]? = some (.cells #[.bool false, .int .i64 k, .slice aa s.length c1', .slice ab 0 c2'] 44 (0, 0)) := by rw [hV]; exact heap_at _ _ _ rfl
 have g0 : V.cell? ⟨w1.heap.size, 0, none⟩ = some (.bool false) := by simp [World.cell?, hgq]
 have g1 : V.cell? ⟨w1.heap.size, 1, none⟩ = some (.int .i64 k) := by simp [World.cell?, hgq]
 have g2 : V.cell? ⟨w1.heap.size, 2, none⟩ = some (.slice aa s.length c1') := by simp [World.cell?, hgq]
 have g3 : V.cell? ⟨w1.heap.size, 3, none⟩ = some (.slice ab 0 c2') := by simp [World.cell?, hgq]
 have g4 := cell_up (kk.trans ka) P0.out
 have g5 := cell_up (kk.trans ka) P1.out
 have HB := Hd (fun w' (kq : Kp V w') => show w'.cell? ⟨w1.heap.size, 0, none⟩ = some (.bool false) ∧ w'.cell? ⟨w1.heap.size, 1, none⟩ = some (.int .i64 k) ∧ w'.cell? ⟨w1.heap.size, 2, none⟩ = some (.slice aa s.length c1') ∧ w'.cell? ⟨w1.heap.size, 3, none⟩ = some (.slice ab 0 c2') ∧ w'.cell? ⟨w.heap.size + 1, 0, none⟩ = some (.int .i64 S) ∧ w'.cell? ⟨w.heap.size + 1, 1, none⟩ = some (.int .i64 T) from ⟨cell_up kq g0, cell_up kq g1, cell_up kq g2, cell_up kq g3, cell_up kq g4, cell_up kq g5⟩)
 have KV := Hd (K0.out.trans (kk.trans ka))
 have HV := Hd hV
 have OKV := Hd (okg.kp ka)
 have ZV := Hd (Kp.refl V)
 have f4 := cell_up kk P0.out
 have f5 := cell_up kk P1.out
 have zp := World.block_lt_of_cell? w1 _ f4
 have zp' : ¬ w.heap.size + 1 = w1.heap.size := by simp at zp; omega
 clear hV ka hgq kk okg g0 g1 g2 g3 g4 g5
 go_wp2_with fail
 rw [← HV.out]
 clear f4 f5 zp
 obtain ⟨e0, e1, e2, e3, e4, e5⟩ := HB.out V (Kp.refl _)
 cases q with
 | false =>
  refine (CO.out _).mono ?_
  rintro e w' ⟨rfl, rfl⟩
  go_wp2
  go_ret
  exact ⟨rfl, KV.out⟩
 | true =>
  refine (CO.out _).mono ?_
  rintro e w' ⟨rfl, rfl⟩
  go_wp2_with fail
  refine (CH.out _ _ _ (OKV.out.a.kp (ky ZV.out)) OKV.out.ia na).mono ?_
  rintro e w2 ⟨rfl, kk⟩
  have kz := (show Kp V _ from (ky ZV.out)).trans kk
  have K2 := Hd (KV.out.trans kz)
  clear e0 e1 e2 e3 e4 e5
  obtain ⟨e0, e1, e2, e3, e4, e5⟩ := HB.out w2 kz
  clear kz kk
  cases z with
  | false =>
   go_wp2
   go_ret
   exact ⟨rfl, K2.out⟩
  | true =>
   go_wp2_with fail
   refine (CF.out _).mono ?_
   rintro e w' ⟨rfl, rfl⟩
   go_wp2_with fail
   refine (CL.out _).mono ?_
   rintro e w' ⟨rfl, rfl⟩
   cases t1 <;> cases t2
   all_goals
    go_wp2
    go_ret
    exact ⟨rfl, K2.out⟩
theorem refHas_s (s t : List R) (f : LF) (va vb : Value) (S T : Int) (w : World) (h : LeafOk w f va vb) (hg : asL f = ⟨true, 0, s, t⟩) (ss : sane s) (st : sane t) :
  Calls Tryz.prog 48 #[leafV f va vb, .agg #[.int .i64 S, .int .i64 T]] w fun e w' => e = .returned (.bool (decide (S ≤ T) && (hasB s S && hasB t T))) ∧ Kp w w' := by
 have C := Hd (fun w1 (kk : Kp w w1) => refAs_any f va vb w1 (h.kp kk))
 rw [hg] at C
 clear hg
 have CS := Hd (fun ad c w1 (r : RunsAt w1 (.slice ad s.length c) s) (ii : I64R s) (hn : s.length ≤ 1000) => rhas_of (.slice ad s.length c) s S w1 (by have := asR_any _ s w1 r ii (by omega); rwa [nf_of_sane ss] at this) ss (by omega))
 have CT := Hd (fun ad c w1 (r : RunsAt w1 (.slice ad t.length c) t) (ii : I64R t) (hn : t.length ≤ 1000) => rhas_of (.slice ad t.length c) t T w1 (by have := asR_any _ t w1 r ii (by omega); rwa [nf_of_sane st] at this) st (by omega))
 generalize hasB s S = z1 at *
 generalize hasB t T = z2 at *
 obtain ⟨q, hq⟩ : ∃ q, decide (S ≤ T) = q := ⟨_, rfl⟩
 rw [hq]
 clear ss st
 obtain ⟨sp, u, a, b⟩ := f
 obtain ⟨ad, ca, rfl⟩ := h.a.slice
 obtain ⟨bd, cb, rfl⟩ := h.b.slice
 simp only [leafV] at C ⊢
 obtain ⟨W0, hW⟩ : ∃ x, x = (w.alloc (.cells #[.bool sp, .int .i64 u, .slice ad a.length ca, .slice bd b.length cb] 44)).alloc (.cells #[.int .i64 S, .int .i64 T] 31) := ⟨_, rfl⟩
 have k0 : Kp w W0 := by rw [hW]; exact (Kp.alloc _ _).trans (Kp.alloc _ _)
 have p0 : W0.cell? ⟨w.heap.size + 1, 0, none⟩ = some (.int .i64 S) := by rw [hW]; simp
 have p1 : W0.cell? ⟨w.heap.size + 1, 1, none⟩ = some (.int .i64 T) := by rw [hW]; simp
 have K0 := Hd k0
 have HW := Hd hW
 have P0 := Hd p0
 have P1 := Hd p1
 clear h hW k0 p0 p1
 go_enter Tryz.func48, Tryz.ntmps48
 go_wp2_with fail
 rw [← HW.out]
 refine (C.out _ K0.out).mono ?_
 rintro e w1 ⟨ga, gb, rfl, okg, kk⟩
 clear C
 obtain ⟨aa, c1', e1⟩ := okg.a.slice
 obtain ⟨ab, c2', e2⟩ := okg.b.slice
 simp only at e1 e2
 subst e1 e2
 have na := okg.na
 have nb := okg.nb
 simp only at na nb
 obtain ⟨V, hV⟩ : ∃ x, x = w1.alloc (.cells #[.bool true, .int .i64 0, .slice aa s.length c1', .slice ab t.length c2'] 44) := ⟨_, rfl⟩
 have ka : Kp w1 V := by rw [hV]; exact Kp.alloc _ _
 have hgq : V.heap[w1.heap.size]? = some (.cells #[.bool true, .int .i64 0, .slice aa s.length c1', .slice ab t.length c2'] 44 (0, 0)) := by rw [hV]; exact heap_at _ _ _ rfl
 have g0 : V.cell? ⟨w1.heap.size, 0, none⟩ = some (.bool true) := by simp [World.cell?, hgq]
 have g1 : V.cell? ⟨w1.heap.size, 1, none⟩ = some (.int .i64 0) := by simp [World.cell?, hgq]
 have g2 : V.cell? ⟨w1.heap.size, 2, none⟩ = some (.slice aa s.length c1') := by simp [World.cell?, hgq]
 have g3 : V.cell? ⟨w1.heap.size, 3, none⟩ = some (.slice ab t.length c2') := by simp [World.cell?, hgq]
 have g4 := cell_up (kk.trans ka) P0.out
 have g5 := cell_up (kk.trans ka) P1.out
 have HB := Hd (fun w' (kq : Kp V w') => show w'.cell? ⟨w1.heap.size, 0, none⟩ = some (.bool true) ∧ w'.cell? ⟨w1.heap.size, 1, none⟩ = some (.int .i64 0) ∧ w'.cell? ⟨w1.heap.size, 2, none⟩ = some (.slice aa s.length c1') ∧ w'.cell? ⟨w1.heap.size, 3, none⟩ = some (.slice ab t.length c2') ∧ w'.cell? ⟨w.heap.size + 1, 0, none⟩ = some (.int .i64 S) ∧ w'.cell? ⟨w.heap.size + 1, 1, none⟩ = some (.int .i64 T) from ⟨cell_up kq g0, cell_up kq g1, cell_up kq g2, cell_up kq g3, cell_up kq g4, cell_up kq g5⟩)
 have KV := Hd (K0.out.trans (kk.trans ka))
 have HV := Hd hV
 have OKV := Hd (okg.kp ka)
 have ZV := Hd (Kp.refl V)
 have f4 := cell_up kk P0.out
 have f5 := cell_up kk P1.out
 have zp := World.block_lt_of_cell? w1 _ f4
 have zp' : ¬ w.heap.size + 1 = w1.heap.size := by simp at zp; omega
 have KW := Hd kk
 clear hV ka hgq kk okg g0 g1 g2 g3 g4 g5
 cases q with
 | false =>
  go_wp2
  go_ret
  exact ⟨rfl, K0.out.trans (KW.out.trans (Kp.alloc _ _))⟩
 | true =>
 go_wp2_with fail
 rw [← HV.out]
 clear f4 f5 zp
 obtain ⟨e0, e1, e2, e3, e4, e5⟩ := HB.out V (Kp.refl _)
 refine (CS.out _ _ _ (OKV.out.a.kp (ky ZV.out)) OKV.out.ia na).mono ?_
 rintro e w2 ⟨rfl, kk⟩
 have kz := (show Kp V _ from (ky ZV.out)).trans kk
 have K2 := Hd kz
 clear e0 e1 e2 e3 e4 e5
 obtain ⟨e0, e1, e2, e3, e4, e5⟩ := HB.out w2 kz
 clear kz kk
 cases z1 with
 | false =>
  go_wp2
  go_ret
  exact ⟨rfl, KV.out.trans K2.out⟩
 | true =>
  go_wp2_with fail
  refine (CT.out _ _ _ (OKV.out.b.kp (ky K2.out)) OKV.out.ib nb).mono ?_
  rintro e w3 ⟨rfl, kk⟩
  have K3 := Hd (KV.out.trans ((show Kp V _ from (ky K2.out)).trans kk))
  go_wp2
  go_ret
  exact ⟨rfl, K3.out⟩
theorem refHas_any (f : LF) (va vb : Value) (S T : Int) (w : World) (h : LeafOk w f va vb) (b1 : -9223372036854775808 ≤ S) (b2 : S ≤ 9223372036854775807) :
  Calls Tryz.prog 48 #[leafV f va vb, .agg #[.int .i64 S, .int .i64 T]] w fun e w' => e = .returned (.bool (hasF (famR f) S T)) ∧ Kp w w' := by
 rcases Bool.eq_false_or_eq_true (leafB f) with hl | hl
 ·have ha : asL f = f := if_pos hl
  rcases Bool.eq_false_or_eq_true f.sp with hs | hs
  ·obtain ⟨hu, h1, h2⟩ := leafB_span hl hs
   rw [hasF_span_as hl hs]
   refine refHas_s f.a f.b f va vb S T w h ?_ (setB_sane h1) (setB_sane h2)
   rw [ha]
   obtain ⟨sp, u, a, b⟩ := f
   simp only at hs hu
   rw [hs, hu]
  ·obtain ⟨_, h1, h2⟩ := leafB_units hl hs
   rw [famR_units hl hs]
   refine refHas_u f.u f.a f va vb S T w h ?_ (setB_sane h1) b1 b2
   rw [ha]
   obtain ⟨sp, u, a, b⟩ := f
   simp only at hs h2
   rw [hs, h2]
 ·rw [famR_no hl]
  exact refHas_u 0 [] f va vb S T w h (by unfold asL; rw [if_neg (by rw [hl]; decide)]; rfl) trivial b1 b2
theorem units_none (k : Int) : unitsR k [] = [] := by
 refine no_mem (unitsR_sane k []) fun m hm => ?_
 exact absurd ((unitsR_mem k [] m).1 hm).1 (memR_nil m)
theorem edg_none (V : Int → Int) (k : Int) : edgB k [] = true ∧ edgR V k [] = [] := by
 have e : edgB k [] = true := by
  unfold edgB
  rw [units_none]
  split <;> simp [nums]
 refine ⟨e, ?_⟩
 unfold edgR
 rw [if_pos e, units_none]
 split
 ·rfl
 ·rfl
theorem startsF_none {F : Fam} (h : emptyF F = true) (hF : FOK F) : startsB F = true ∧ startsR F = [] ∧ endsB F = true ∧ endsR F = [] := by
 cases F with
 | units k s =>
  have h1 : s = [] := List.length_eq_zero_iff.1 (of_decide_eq_true h)
  subst h1
  exact ⟨(edg_none (firV k) k).1, (edg_none (firV k) k).2, (edg_none (lasV k) k).1, (edg_none (lasV k) k).2⟩
 | span s e =>
  have h1 : s = [] := List.length_eq_zero_iff.1 (of_decide_eq_true h)
  subst h1
  have h2 : e = [] := no_mem (setB_sane hF.2.1) fun m hm => by
   obtain ⟨n, hn, _⟩ := hF.2.2.2 m hm
   exact memR_nil n hn
  subst h2
  exact ⟨rfl, rfl, rfl, rfl⟩
theorem rsome_any (v : Value) (s : List R) (w : World) (hv : RunsAt w v s) (hn : s.length ≤ 1000) :
  Calls Tryz.prog 119 #[v] w fun e w' => ∃ v', e = .returned (.tuple #[v', .bool (decide (s.length ≤ 400))]) ∧ RunsAt w' v' (if s.length ≤ 400 then s else []) ∧ Kp w w' := by
 have RS := Hd hv
 obtain ⟨ad, c, rfl⟩ := hv.slice
 clear hv
 have z := Hd (Kp.refl w)
 by_cases h4 : s.length ≤ 400
 ·have q0 : decide ((400 : Int) < (s.length : Int)) = false := dF
  have q1 : decide (400 < s.length) = false := dF
  rw [decide_eq_true h4, if_pos h4]
  clear h4
  go_enter Tryz.func119, Tryz.ntmps119
  go_wp2
  go_ret2
  exact ⟨_, rfl, RS.out, z.out⟩
 ·have q0 : decide ((400 : Int) < (s.length : Int)) = true := dT
  have q1 : decide (400 < s.length) = true := dT
  rw [decide_eq_false h4, if_neg h4]
  clear h4
  go_enter Tryz.func119, Tryz.ntmps119
  go_wp2
  go_ret2
  exact ⟨_, rfl, .inl ⟨_, _, rfl, rfl⟩, z.out⟩
theorem refStarts_u (k : Int) (s : List R) (f g : LF) (va vb : Value) (w : World) (h : LeafOk w f va vb) (hg : lfOf (famR f) = g) (hs : g = ⟨false, k, s, []⟩) :
  Calls Tryz.prog 61 #[leafV f va vb] w fun e w' => ∃ v, e = .returned (.tuple #[v, .bool (edgB k s)]) ∧ RunsAt w' v (edgR (firV k) k s) ∧ Kp w w' := by
 have C := Hd (fun w1 (kk : Kp w w1) => refTidy_any f va vb w1 (h.kp kk))
 rw [hg, hs] at C
 clear hg hs
 obtain ⟨sp, u, a, b⟩ := f
 obtain ⟨ad, ca, rfl⟩ := h.a.slice
 obtain ⟨bd, cb, rfl⟩ := h.b.slice
 simp only [leafV] at C ⊢
 have K0 := Hd (Kp.alloc w (.cells #[.bool sp, .int .i64 u, .slice ad a.length ca, .slice bd b.length cb] 44))
 clear h
 have CS := Hd (fun v w1 (r : RunsAt w1 v s) ii (hn : s.length ≤ 1000) => rstarts_any k v s w1 r ii (by omega))
 generalize edgB k s = q at *
 generalize edgR (firV k) k s = E at *
 go_enter Tryz.func61, Tryz.ntmps61
 go_wp2_with fail
 refine (C.out _ K0.out).mono ?_
 rintro e w1 ⟨ga, gb, rfl, okg, kk⟩
 obtain ⟨aa, c1', e1⟩ := okg.a.slice
 obtain ⟨ab, c2', e2⟩ := okg.b.slice
 simp only [List.length_nil] at e2
 subst e1 e2
 clear C
 obtain ⟨V, hV⟩ : ∃ x, x = w1.alloc (.cells #[.bool false, .int .i64 k, .slice aa s.length c1', .slice ab 0 c2'] 44) := ⟨_, rfl⟩
 have ka : Kp w1 V := by rw [hV]; exact Kp.alloc _ _
 have hgq : V.heap[w1.heap.size]? = some (.cells #[.bool false, .int .i64 k, .slice aa s.length c1', .slice ab 0 c2'] 44 (0, 0)) := by rw [hV]; exact heap_at _ _ _ rfl
 have g0 : V.cell? ⟨w1.heap.size, 0, none⟩ = some (.bool false) := by simp [World.cell?, hgq]
 have g1 : V.cell? ⟨w1.heap.size, 1, none⟩ = some (.int .i64 k) := by simp [World.cell?, hgq]
 have g2 : V.cell? ⟨w1.heap.size, 2, none⟩ = some (.slice aa s.length c1') := by simp [World.cell?, hgq]
 have g3 : V.cell? ⟨w1.heap.size, 3, none⟩ = some (.slice ab 0 c2') := by simp [World.cell?, hgq]
 have KV := Hd (K0.out.trans (kk.trans ka))
 have HV := Hd hV
 have OKV := Hd (okg.kp ka)
 have ZV := Hd (Kp.refl V)
 clear hV ka hgq kk okg
 go_wp2_with fail
 rw [← HV.out]
 refine (CS.out _ _ (OKV.out.a.kp (ky ZV.out)) OKV.out.ia OKV.out.na).mono ?_
 rintro e w2 ⟨v2, rfl, r2, kk⟩
 have R2 := Hd r2
 clear r2
 have KW := Hd ((show Kp V _ from (ky ZV.out)).trans kk)
 clear kk
 go_wp2
 exact bodyPost_ret (results_tmp2 rfl _ _ _) rfl ⟨_, rfl, R2.out, KV.out.trans KW.out⟩
theorem refStarts_s (s t : List R) (f g : LF) (va vb : Value) (w : World) (h : LeafOk w f va vb) (hg : lfOf (famR f) = g) (hs : g = ⟨true, 0, s, t⟩) :
  Calls Tryz.prog 61 #[leafV f va vb] w fun e w' => ∃ v, e = .returned (.tuple #[v, .bool (decide (s.length ≤ 400))]) ∧ RunsAt w' v (if s.length ≤ 400 then s else []) ∧ Kp w w' := by
 have C := Hd (fun w1 (kk : Kp w w1) => refTidy_any f va vb w1 (h.kp kk))
 rw [hg, hs] at C
 clear hg hs
 obtain ⟨sp, u, a, b⟩ := f
 obtain ⟨ad, ca, rfl⟩ := h.a.slice
 obtain ⟨bd, cb, rfl⟩ := h.b.slice
 simp only [leafV] at C ⊢
 have K0 := Hd (Kp.alloc w (.cells #[.bool sp, .int .i64 u, .slice ad a.length ca, .slice bd b.length cb] 44))
 clear h
 have CS := Hd (fun v w1 (r : RunsAt w1 v s) (hn : s.length ≤ 1000) => rsome_any v s w1 r hn)
 generalize decide (s.length ≤ 400) = q at *
 generalize (if s.length ≤ 400 then s else []) = E at *
 go_enter Tryz.func61, Tryz.ntmps61
 go_wp2_with fail
 refine (C.out _ K0.out).mono ?_
 rintro e w1 ⟨ga, gb, rfl, okg, kk⟩
 obtain ⟨aa, c1', e1⟩ := okg.a.slice
 obtain ⟨ab, c2', e2⟩ := okg.b.slice
 subst e1 e2
 clear C
 obtain ⟨V, hV⟩ : ∃ x, x = w1.alloc (.cells #[.bool true, .int .i64 0, .slice aa s.length c1', .slice ab t.length c2'] 44) := ⟨_, rfl⟩
 have ka : Kp w1 V := by rw [hV]; exact Kp.alloc _ _
 have hgq : V.heap[w1.heap.size]? = some (.cells #[.bool true, .int .i64 0, .slice aa s.length c1', .slice ab t.length c2'] 44 (0, 0)) := by rw [hV]; exact heap_at _ _ _ rfl
 have g0 : V.cell? ⟨w1.heap.size, 0, none⟩ = some (.bool true) := by simp [World.cell?, hgq]
 have g1 : V.cell? ⟨w1.heap.size, 1, none⟩ = some (.int .i64 0) := by simp [World.cell?, hgq]
 have g2 : V.cell? ⟨w1.heap.size, 2, none⟩ = some (.slice aa s.length c1') := by simp [World.cell?, hgq]
 have g3 : V.cell? ⟨w1.heap.size, 3, none⟩ = some (.slice ab t.length c2') := by simp [World.cell?, hgq]
 have KV := Hd (K0.out.trans (kk.trans ka))
 have HV := Hd hV
 have OKV := Hd (okg.kp ka)
 have ZV := Hd (Kp.refl V)
 clear hV ka hgq kk okg
 go_wp2_with fail
 rw [← HV.out]
 refine (CS.out _ _ (OKV.out.a.kp (ky ZV.out)) OKV.out.na).mono ?_
 rintro e w2 ⟨v2, rfl, r2, kk⟩
 have R2 := Hd r2
 clear r2
 have KW := Hd ((show Kp V _ from (ky ZV.out)).trans kk)
 clear kk
 go_wp2
 exact bodyPost_ret (results_tmp2 rfl _ _ _) rfl ⟨_, rfl, R2.out, KV.out.trans KW.out⟩
theorem refLStarts_any (f : LF) (va vb : Value) (w : World) (h : LeafOk w f va vb) :
  Calls Tryz.prog 61 #[leafV f va vb] w fun e w' => ∃ v, e = .returned (.tuple #[v, .bool (startsB (famR f))]) ∧ RunsAt w' v (startsR (famR f)) ∧ Kp w w' := by
 have hF := famR_ok f
 rcases Bool.eq_false_or_eq_true (emptyF (famR f)) with h0 | h0
 ·have e := startsF_none h0 hF
  rw [e.1, e.2.1]
  have := refStarts_u 0 [] f _ va vb w h rfl (lfOf_none h0)
  rw [(edg_none (firV 0) 0).1, (edg_none (firV 0) 0).2] at this
  exact this
 ·cases hf : famR f with
  | units k s =>
   rw [hf] at h0
   exact refStarts_u k s f _ va vb w h rfl (by rw [hf]; exact lfOf_u1 (of_decide_eq_false h0))
  | span s t =>
   rw [hf] at h0
   exact refStarts_s s t f _ va vb w h rfl (by rw [hf]; exact lfOf_s1 (of_decide_eq_false h0))
theorem refEnds_u (k : Int) (s : List R) (f g : LF) (va vb : Value) (w : World) (h : LeafOk w f va vb) (hg : lfOf (famR f) = g) (hs : g = ⟨false, k, s, []⟩) :
  Calls Tryz.prog 62 #[leafV f va vb] w fun e w' => ∃ v, e = .returned (.tuple #[v, .bool (edgB k s)]) ∧ RunsAt w' v (edgR (lasV k) k s) ∧ Kp w w' := by
 have C := Hd (fun w1 (kk : Kp w w1) => refTidy_any f va vb w1 (h.kp kk))
 rw [hg, hs] at C
 clear hg hs
 obtain ⟨sp, u, a, b⟩ := f
 obtain ⟨ad, ca, rfl⟩ := h.a.slice
 obtain ⟨bd, cb, rfl⟩ := h.b.slice
 simp only [leafV] at C ⊢
 have K0 := Hd (Kp.alloc w (.cells #[.bool sp, .int .i64 u, .slice ad a.length ca, .slice bd b.length cb] 44))
 clear h
 have CS := Hd (fun v w1 (r : RunsAt w1 v s) ii (hn : s.length ≤ 1000) => rends_any k v s w1 r ii (by omega))
 generalize edgB k s = q at *
 generalize edgR (lasV k) k s = E at *
 go_enter Tryz.func62, Tryz.ntmps62
 go_wp2_with fail
 refine (C.out _ K0.out).mono ?_
 rintro e w1 ⟨ga, gb, rfl, okg, kk⟩
 obtain ⟨aa, c1', e1⟩ := okg.a.slice
 obtain ⟨ab, c2', e2⟩ := okg.b.slice
 simp only [List.length_nil] at e2
 subst e1 e2
 clear C
 obtain ⟨V, hV⟩ : ∃ x, x = w1.alloc (.cells #[.bool false, .int .i64 k, .slice aa s.length c1', .slice ab 0 c2'] 44) := ⟨_, rfl⟩
 have ka : Kp w1 V := by rw [hV]; exact Kp.alloc _ _
 have hgq : V.heap[w1.heap.size]? = some (.cells #[.bool false, .int .i64 k, .slice aa s.length c1', .slice ab 0 c2'] 44 (0, 0)) := by rw [hV]; exact heap_at _ _ _ rfl
 have g0 : V.cell? ⟨w1.heap.size, 0, none⟩ = some (.bool false) := by simp [World.cell?, hgq]
 have g1 : V.cell? ⟨w1.heap.size, 1, none⟩ = some (.int .i64 k) := by simp [World.cell?, hgq]
 have g2 : V.cell? ⟨w1.heap.size, 2, none⟩ = some (.slice aa s.length c1') := by simp [World.cell?, hgq]
 have g3 : V.cell? ⟨w1.heap.size, 3, none⟩ = some (.slice ab 0 c2') := by simp [World.cell?, hgq]
 have KV := Hd (K0.out.trans (kk.trans ka))
 have HV := Hd hV
 have OKV := Hd (okg.kp ka)
 have ZV := Hd (Kp.refl V)
 clear hV ka hgq kk okg
 go_wp2_with fail
 rw [← HV.out]
 refine (CS.out _ _ (OKV.out.a.kp (ky ZV.out)) OKV.out.ia OKV.out.na).mono ?_
 rintro e w2 ⟨v2, rfl, r2, kk⟩
 have R2 := Hd r2
 clear r2
 have KW := Hd ((show Kp V _ from (ky ZV.out)).trans kk)
 clear kk
 go_wp2
 exact bodyPost_ret (results_tmp2 rfl _ _ _) rfl ⟨_, rfl, R2.out, KV.out.trans KW.out⟩
theorem refEnds_s (s t : List R) (f g : LF) (va vb : Value) (w : World) (h : LeafOk w f va vb) (hg : lfOf (famR f) = g) (hs : g = ⟨true, 0, s, t⟩) :
  Calls Tryz.prog 62 #[leafV f va vb] w fun e w' => ∃ v, e = .returned (.tuple #[v, .bool (decide (t.length ≤ 400))]) ∧ RunsAt w' v (if t.length ≤ 400 then t else []) ∧ Kp w w' := by
 have C := Hd (fun w1 (kk : Kp w w1) => refTidy_any f va vb w1 (h.kp kk))
 rw [hg, hs] at C
 clear hg hs
 obtain ⟨sp, u, a, b⟩ := f
 obtain ⟨ad, ca, rfl⟩ := h.a.slice
 obtain ⟨bd, cb, rfl⟩ := h.b.slice
 simp only [leafV] at C ⊢
 have K0 := Hd (Kp.alloc w (.cells #[.bool sp, .int .i64 u, .slice ad a.length ca, .slice bd b.length cb] 44))
 clear h
 have CS := Hd (fun v w1 (r : RunsAt w1 v t) (hn : t.length ≤ 1000) => rsome_any v t w1 r hn)
 generalize decide (t.length ≤ 400) = q at *
 generalize (if t.length ≤ 400 then t else []) = E at *
 go_enter Tryz.func62, Tryz.ntmps62
 go_wp2_with fail
 refine (C.out _ K0.out).mono ?_
 rintro e w1 ⟨ga, gb, rfl, okg, kk⟩
 obtain ⟨aa, c1', e1⟩ := okg.a.slice
 obtain ⟨ab, c2', e2⟩ := okg.b.slice
 subst e1 e2
 clear C
 obtain ⟨V, hV⟩ : ∃ x, x = w1.alloc (.cells #[.bool true, .int .i64 0, .slice aa s.length c1', .slice ab t.length c2'] 44) := ⟨_, rfl⟩
 have ka : Kp w1 V := by rw [hV]; exact Kp.alloc _ _
 have hgq : V.heap[w1.heap.size]? = some (.cells #[.bool true, .int .i64 0, .slice aa s.length c1', .slice ab t.length c2'] 44 (0, 0)) := by rw [hV]; exact heap_at _ _ _ rfl
 have g0 : V.cell? ⟨w1.heap.size, 0, none⟩ = some (.bool true) := by simp [World.cell?, hgq]
 have g1 : V.cell? ⟨w1.heap.size, 1, none⟩ = some (.int .i64 0) := by simp [World.cell?, hgq]
 have g2 : V.cell? ⟨w1.heap.size, 2, none⟩ = some (.slice aa s.length c1') := by simp [World.cell?, hgq]
 have g3 : V.cell? ⟨w1.heap.size, 3, none⟩ = some (.slice ab t.length c2') := by simp [World.cell?, hgq]
 have KV := Hd (K0.out.trans (kk.trans ka))
 have HV := Hd hV
 have OKV := Hd (okg.kp ka)
 have ZV := Hd (Kp.refl V)
 clear hV ka hgq kk okg
 go_wp2_with fail
 rw [← HV.out]
 refine (CS.out _ _ (OKV.out.b.kp (ky ZV.out)) OKV.out.nb).mono ?_
 rintro e w2 ⟨v2, rfl, r2, kk⟩
 have R2 := Hd r2
 clear r2
 have KW := Hd ((show Kp V _ from (ky ZV.out)).trans kk)
 clear kk
 go_wp2
 exact bodyPost_ret (results_tmp2 rfl _ _ _) rfl ⟨_, rfl, R2.out, KV.out.trans KW.out⟩
theorem refLEnds_any (f : LF) (va vb : Value) (w : World) (h : LeafOk w f va vb) :
  Calls Tryz.prog 62 #[leafV f va vb] w fun e w' => ∃ v, e = .returned (.tuple #[v, .bool (endsB (famR f))]) ∧ RunsAt w' v (endsR (famR f)) ∧ Kp w w' := by
 have hF := famR_ok f
 rcases Bool.eq_false_or_eq_true (emptyF (famR f)) with h0 | h0
 ·have e := startsF_none h0 hF
  rw [e.2.2.1, e.2.2.2]
  have := refEnds_u 0 [] f _ va vb w h rfl (lfOf_none h0)
  rw [(edg_none (lasV 0) 0).1, (edg_none (lasV 0) 0).2] at this
  exact this
 ·cases hf : famR f with
  | units k s =>
   rw [hf] at h0
   exact refEnds_u k s f _ va vb w h rfl (by rw [hf]; exact lfOf_u1 (of_decide_eq_false h0))
  | span s t =>
   rw [hf] at h0
   exact refEnds_s s t f _ va vb w h rfl (by rw [hf]; exact lfOf_s1 (of_decide_eq_false h0))
end Go.Proofs.YtcooaoponkkpeaaGreatDoor
