/-
  Joined: RefP, RefT, RefU, RefV, RefW, RefQ, RefR.
-/
import Derived.Test.YtfphmhdgnokopaaGreatDoorGRef
import Derived.Test.YtfphmhdgnokopaaGreatDoorGLeafB
import Derived.Test.YtfphmhdgnokopaaGreatDoorApp
import Derived.LoopTactic
import Derived.Test.YtfphmhdgnokopaaGreatDoorGImgC
namespace Go.Proofs.YtfphmhdgnokopaaGreatDoor
open Go.RowKit
set_option linter.unusedVariables false
set_option linter.unusedSimpArgs false
set_option maxHeartbeats 16000000 in
set_option maxRecDepth 100000 in
theorem refCovers_e (f : LF) (va vb : Value) (d : Int) (w : World) (h : LeafOk w f va vb) (h0 : emptyF (famR f) = true) :
    Calls Tryz.prog 24 #[leafV f va vb, .int .i64 d] w fun e w' => e = .returned (.bool false) ∧ Kp w w' := by
  have C := Lib.hid (fun w1 (kk : Kp w w1) => refTidy_any f va vb w1 (h.kp kk))
  rw [lfOf_none h0] at C
  clear h0
  simp only [lf0] at C
  obtain ⟨sp, u, a, b⟩ := f
  obtain ⟨ad, ca, rfl⟩ := h.a.slice
  obtain ⟨bd, cb, rfl⟩ := h.b.slice
  simp only [leafV] at C ⊢
  have K0 := Lib.hid (Kp.alloc w (.cells #[.bool sp, .int .i64 u, .slice ad a.length ca, .slice bd b.length cb] 24))
  clear h
  go_enter Tryz.func24, Tryz.ntmps24
  go_wp2_with fail
  refine (C.out _ K0.out).mono ?_
  rintro e w1 ⟨ga, gb, rfl, okg, kk⟩
  have K1 := Lib.hid (K0.out.trans kk)
  clear kk C
  obtain ⟨aa, c1, e1⟩ := okg.a.slice
  obtain ⟨ab, c2, e2⟩ := okg.b.slice
  simp only [List.length_nil] at e1 e2
  subst e1 e2
  obtain ⟨V, hV⟩ : ∃ x, x = w1.alloc (.cells #[.bool false, .int .i64 0, .slice aa 0 c1, .slice ab 0 c2] 24) := ⟨_, rfl⟩
  have ka : Kp w1 V := by rw [hV]; exact Kp.alloc _ _
  have hgq : V.heap[w1.heap.size]? = some (.cells #[.bool false, .int .i64 0, .slice aa 0 c1, .slice ab 0 c2] 24 (0, 0)) := by rw [hV]; exact heap_at _ _ _ rfl
  have g0 : V.cell? ⟨w1.heap.size, 0, none⟩ = some (.bool false) := by simp [World.cell?, hgq]
  have g1 : V.cell? ⟨w1.heap.size, 1, none⟩ = some (.int .i64 0) := by simp [World.cell?, hgq]
  have g2 : V.cell? ⟨w1.heap.size, 2, none⟩ = some (.slice aa 0 c1) := by simp [World.cell?, hgq]
  have g3 : V.cell? ⟨w1.heap.size, 3, none⟩ = some (.slice ab 0 c2) := by simp [World.cell?, hgq]
  have HB := Lib.hid (fun w' (kq : Kp V w') => show w'.cell? ⟨w1.heap.size, 0, none⟩ = some (.bool false) ∧ w'.cell? ⟨w1.heap.size, 1, none⟩ = some (.int .i64 0) ∧ w'.cell? ⟨w1.heap.size, 2, none⟩ = some (.slice aa 0 c1) ∧ w'.cell? ⟨w1.heap.size, 3, none⟩ = some (.slice ab 0 c2) from ⟨cell_up kq g0, cell_up kq g1, cell_up kq g2, cell_up kq g3⟩)
  have KV := Lib.hid (K1.out.trans ka)
  have KA := Lib.hid ka
  have HV := Lib.hid hV
  have OKV := Lib.hid (okg.kp ka)
  have ZV := Lib.hid (Kp.refl V)
  clear hV ka hgq g0 g1 g2 g3 okg
  go_wp2_with fail
  rw [← HV.out]
  obtain ⟨cf0, cf1, cf2, cf3⟩ := HB.out V (Kp.refl _)
  go_wp2
  go_ret
  exact ⟨rfl, KV.out⟩
set_option maxHeartbeats 16000000 in
set_option maxRecDepth 100000 in
theorem refCovers_u (k : Int) (s : List R) (f : LF) (va vb : Value) (d : Int) (w : World) (h : LeafOk w f va vb) (hf : famR f = .units k s) (h1 : ¬ s.length = 0) (d1 : -9223372036854775808 ≤ d) (d2 : d ≤ 9223372036854775807) :
    Calls Tryz.prog 24 #[leafV f va vb, .int .i64 d] w fun e w' => e = .returned (.bool (okO k d && hasB s (ofV k d))) ∧ Kp w w' := by
  have C := Lib.hid (fun w1 (kk : Kp w w1) => refTidy_any f va vb w1 (h.kp kk))
  have hF := famR_ok f
  rw [hf] at C hF
  rw [lfOf_u1 h1] at C
  have ss := setB_sane hF
  have CO := Lib.hid (fun w1 => rof_any k d w1 d1 d2)
  have CH := Lib.hid (fun ad c w1 (r : RunsAt w1 (.slice ad s.length c) s) (ii : I64R s) (hn : s.length ≤ 1000) => rhas_of (.slice ad s.length c) s (ofV k d) w1 (by have := asR_any _ s w1 r ii (by omega); rwa [nf_of_sane ss] at this) ss (by omega))
  generalize okO k d = q at *
  generalize ofV k d = i at *
  generalize hasB s i = z at *
  clear hf hF ss
  obtain ⟨sp, u, a, b⟩ := f
  obtain ⟨ad, ca, rfl⟩ := h.a.slice
  obtain ⟨bd, cb, rfl⟩ := h.b.slice
  simp only [leafV] at C ⊢
  have K0 := Lib.hid (Kp.alloc w (.cells #[.bool sp, .int .i64 u, .slice ad a.length ca, .slice bd b.length cb] 24))
  clear h
  go_enter Tryz.func24, Tryz.ntmps24
  go_wp2_with fail
  refine (C.out _ K0.out).mono ?_
  rintro e w1 ⟨ga, gb, rfl, okg, kk⟩
  have K1 := Lib.hid (K0.out.trans kk)
  clear kk C
  obtain ⟨aa, c1, e1⟩ := okg.a.slice
  obtain ⟨ab, c2, e2⟩ := okg.b.slice
  simp only [List.length_nil] at e1 e2
  subst e1 e2
  have na := okg.na
  simp only at na
  have q0 : ((s.length : Int) == 0) = false := beq_eq_false_iff_ne.2 (by omega)
  obtain ⟨V, hV⟩ : ∃ x, x = w1.alloc (.cells #[.bool false, .int .i64 k, .slice aa s.length c1, .slice ab 0 c2] 24) := ⟨_, rfl⟩
  have ka : Kp w1 V := by rw [hV]; exact Kp.alloc _ _
  have hgq : V.heap[w1.heap.size]? = some (.cells #[.bool false, .int .i64 k, .slice aa s.length c1, .slice ab 0 c2] 24 (0, 0)) := by rw [hV]; exact heap_at _ _ _ rfl
  have g0 : V.cell? ⟨w1.heap.size, 0, none⟩ = some (.bool false) := by simp [World.cell?, hgq]
  have g1 : V.cell? ⟨w1.heap.size, 1, none⟩ = some (.int .i64 k) := by simp [World.cell?, hgq]
  have g2 : V.cell? ⟨w1.heap.size, 2, none⟩ = some (.slice aa s.length c1) := by simp [World.cell?, hgq]
  have g3 : V.cell? ⟨w1.heap.size, 3, none⟩ = some (.slice ab 0 c2) := by simp [World.cell?, hgq]
  have HB := Lib.hid (fun w' (kq : Kp V w') => show w'.cell? ⟨w1.heap.size, 0, none⟩ = some (.bool false) ∧ w'.cell? ⟨w1.heap.size, 1, none⟩ = some (.int .i64 k) ∧ w'.cell? ⟨w1.heap.size, 2, none⟩ = some (.slice aa s.length c1) ∧ w'.cell? ⟨w1.heap.size, 3, none⟩ = some (.slice ab 0 c2) from ⟨cell_up kq g0, cell_up kq g1, cell_up kq g2, cell_up kq g3⟩)
  have KV := Lib.hid (K1.out.trans ka)
  have KA := Lib.hid ka
  have HV := Lib.hid hV
  have OKV := Lib.hid (okg.kp ka)
  have ZV := Lib.hid (Kp.refl V)
  clear hV ka hgq g0 g1 g2 g3 okg
  go_wp2_with fail
  rw [← HV.out]
  obtain ⟨cf0, cf1, cf2, cf3⟩ := HB.out V (Kp.refl _)
  cases q with
  | false =>
    refine (CO.out _).mono ?_
    rintro e w' ⟨rfl, rfl⟩
    go_wp2
    go_ret
    exact ⟨rfl, KV.out⟩
  | true =>
    refine (CO.out _).mono ?_
    rintro e w' ⟨rfl, rfl⟩
    go_wp2_with fail
    refine (CH.out _ _ _ (OKV.out.a.kp (by first | with_reducible exact ZV.out | with_reducible exact ZV.out.trans (Kp.alloc _ _) | with_reducible exact (ZV.out.trans (Kp.alloc _ _)).trans (Kp.alloc _ _) | with_reducible exact ((ZV.out.trans (Kp.alloc _ _)).trans (Kp.alloc _ _)).trans (Kp.alloc _ _) | with_reducible exact ZV.out.trans (Kp.drew _) | with_reducible exact ZV.out.trans (Kp.drewN _ _))) OKV.out.ia na).mono ?_
    rintro e w2 ⟨rfl, kk⟩
    have K2 := Lib.hid (KV.out.trans ((show Kp V _ from (by first | with_reducible exact ZV.out | with_reducible exact ZV.out.trans (Kp.alloc _ _) | with_reducible exact (ZV.out.trans (Kp.alloc _ _)).trans (Kp.alloc _ _) | with_reducible exact ((ZV.out.trans (Kp.alloc _ _)).trans (Kp.alloc _ _)).trans (Kp.alloc _ _) | with_reducible exact ZV.out.trans (Kp.drew _) | with_reducible exact ZV.out.trans (Kp.drewN _ _))).trans kk))
    go_wp2
    go_ret
    exact ⟨rfl, K2.out⟩
set_option maxHeartbeats 16000000 in
set_option maxRecDepth 100000 in
theorem refCovers_s (s t : List R) (f : LF) (va vb : Value) (d : Int) (w : World) (h : LeafOk w f va vb) (hf : famR f = .span s t) (h1 : ¬ s.length = 0) (d1 : -9223372036854775808 ≤ d) (d2 : d ≤ 9223372036854775807) :
    Calls Tryz.prog 24 #[leafV f va vb, .int .i64 d] w fun e w' => e = .returned (.bool (decide (leastR s ≤ d) && decide (d ≤ greatR t))) ∧ Kp w w' := by
  have C := Lib.hid (fun w1 (kk : Kp w w1) => refTidy_any f va vb w1 (h.kp kk))
  have hF := famR_ok f
  rw [hf] at C hF
  rw [lfOf_s1 h1] at C
  have l1 : 0 < t.length := by
    obtain ⟨m, hm, _⟩ := hF.2.2.1 _ (least_mem (setB_sane hF.1) (by omega))
    exact mem_pos hm
  obtain ⟨q1, hq1⟩ : ∃ q, decide (leastR s ≤ d) = q := ⟨_, rfl⟩
  obtain ⟨q2, hq2⟩ : ∃ q, decide (d ≤ greatR t) = q := ⟨_, rfl⟩
  rw [hq1, hq2]
  clear hf hF
  obtain ⟨sp, u, a, b⟩ := f
  obtain ⟨ad, ca, rfl⟩ := h.a.slice
  obtain ⟨bd, cb, rfl⟩ := h.b.slice
  simp only [leafV] at C ⊢
  have K0 := Lib.hid (Kp.alloc w (.cells #[.bool sp, .int .i64 u, .slice ad a.length ca, .slice bd b.length cb] 24))
  clear h
  go_enter Tryz.func24, Tryz.ntmps24
  go_wp2_with fail
  refine (C.out _ K0.out).mono ?_
  rintro e w1 ⟨ga, gb, rfl, okg, kk⟩
  have K1 := Lib.hid (K0.out.trans kk)
  clear kk C
  obtain ⟨ba, oa, c1, ev, x0, x1⟩ := ends_at okg.a (by simp only; omega)
  simp only at ev x0 x1
  subst ev
  obtain ⟨bb, ob, c2, ev, y0, y1⟩ := ends_at okg.b (by simp only; omega)
  simp only at ev y0 y1
  subst ev
  have na := okg.na
  have nb := okg.nb
  simp only at na nb
  have q0 : ((s.length : Int) == 0) = false := beq_eq_false_iff_ne.2 (by omega)
  have wz : 0 < s.length := by omega
  have wt : (t.length : Int) - 1 = ((t.length - 1 : Nat) : Int) := by omega
  have wu : IntKind.i64.wrap ((t.length - 1 : Nat) : Int) = ((t.length - 1 : Nat) : Int) := IntWalk.i64_in _ (by omega)
  have wx : t.length - 1 < t.length := by omega
  have wy : ((t.length - 1 : Nat) : Int) < (t.length : Int) := by omega
  have wv : (0 : Int) ≤ ((t.length - 1 : Nat) : Int) := by omega
  have za := World.block_lt_of_cell? w1 _ x0
  have zb := World.block_lt_of_cell? w1 _ y1
  have za' : ¬ ba = w1.heap.size := by simp at za; omega
  have zb' : ¬ bb = w1.heap.size := by simp at zb; omega
  clear x1 y0 h1 okg
  generalize leastR s = x at *
  generalize greatR t = y at *
  cases q1 <;> cases q2
  all_goals
    go_wp2
    go_ret
    exact ⟨rfl, K1.out.trans (Kp.alloc _ _)⟩
theorem refCovers_any (f : LF) (va vb : Value) (d : Int) (w : World) (h : LeafOk w f va vb) (d1 : -9223372036854775808 ≤ d) (d2 : d ≤ 9223372036854775807) :
    Calls Tryz.prog 24 #[leafV f va vb, .int .i64 d] w fun e w' => e = .returned (.bool (coversF (famR f) d)) ∧ Kp w w' := by
  rcases Bool.eq_false_or_eq_true (emptyF (famR f)) with h0 | h0
  · have e : coversF (famR f) d = false := by
      rw [Bool.eq_false_iff]
      intro c
      obtain ⟨S, T, m, _⟩ := (covers_iff (famR_ok f) d).1 c
      rw [(empty_iff (famR_ok f)).1 h0 S T] at m
      cases m
    rw [e]
    exact refCovers_e f va vb d w h h0
  · cases hf : famR f with
    | units k s =>
      rw [hf] at h0
      exact refCovers_u k s f va vb d w h hf (of_decide_eq_false h0) d1 d2
    | span s t =>
      rw [hf] at h0
      have h1 : decide (s.length = 0) = false := h0
      have e2 : coversF (.span s t) d = (!decide (s.length = 0) && (decide (leastR s ≤ d) && decide (d ≤ greatR t))) := rfl
      have e : coversF (.span s t) d = (decide (leastR s ≤ d) && decide (d ≤ greatR t)) := by rw [e2, h1]; rfl
      rw [e]
      exact refCovers_s s t f va vb d w h hf (of_decide_eq_false h0) d1 d2
end Go.Proofs.YtfphmhdgnokopaaGreatDoor

namespace Go.Proofs.YtfphmhdgnokopaaGreatDoor
open Go.RowKit
set_option linter.unusedVariables false
set_option linter.unusedSimpArgs false
def nthI (L : List Int) (j : Nat) : Int × Bool := if h : j < L.length then (L[j], true) else (0, false)
theorem nthI_yes {L : List Int} {j : Nat} (h : j < L.length) : nthI L j = (L[j], true) := dif_pos h
theorem nthI_no {L : List Int} {j : Nat} (h : ¬ j < L.length) : nthI L j = (0, false) := dif_neg h
theorem nxt_cut {s : List R} (hs : sane s) {F : List Int} (hp : F.Pairwise (fun a b => a < b)) (x n : Int) (hF : ∀ y, y ∈ F ↔ memR s y ∧ x ≤ y) (hx : x ≤ n) (j : Nat)
    (hl : ∀ i (hi : i < F.length), i < j → F[i] < n) (hr : ∀ i (hi : i < F.length), j ≤ i → n ≤ F[i]) : nxt s n = nthI F j := by
  rcases nxt_spec s n hs with ⟨e, g⟩ | ⟨a, e, h1, h2, h3⟩
  · rw [e]
    by_cases h : j < F.length
    · have a1 := hr j h (Nat.le_refl _)
      have a2 := g _ ((hF _).1 (List.getElem_mem h)).1
      omega
    · exact (nthI_no h).symm
  · rw [e]
    obtain ⟨i, hi, ei⟩ := List.mem_iff_getElem.1 ((hF a).2 ⟨h2, by omega⟩)
    by_cases h : j < F.length
    · rw [nthI_yes h]
      have m := (hF _).1 (List.getElem_mem h)
      have b1 := h3 _ m.1 (hr j h (Nat.le_refl _))
      have hij : j ≤ i := by
        rcases Nat.lt_or_ge i j with c | c
        · have := hl i hi c
          omega
        · exact c
      have b2 : F[j] ≤ F[i] := by
        rcases Nat.lt_or_ge j i with c | c
        · exact Int.le_of_lt (List.pairwise_iff_getElem.1 hp j i h hi c)
        · have e1 : i = j := by omega
          subst e1
          exact Int.le_refl _
      have : a = F[j] := by omega
      rw [this]
    · have := hl i hi (by omega)
      omega
theorem nxt_first {s : List R} (hs : sane s) {F : List Int} (hp : F.Pairwise (fun a b => a < b)) (x : Int) (hF : ∀ y, y ∈ F ↔ memR s y ∧ x ≤ y) : nxt s x = nthI F 0 :=
  nxt_cut hs hp x x hF (Int.le_refl _) 0 (fun i hi c => by omega) (fun i hi _ => ((hF _).1 (List.getElem_mem hi)).2)
theorem nxt_more {s : List R} (hs : sane s) {F : List Int} (hp : F.Pairwise (fun a b => a < b)) (x : Int) (hF : ∀ y, y ∈ F ↔ memR s y ∧ x ≤ y) (j : Nat) (hj : j < F.length) : nxt s (F[j] + 1) = nthI F (j + 1) := by
  have g := List.pairwise_iff_getElem.1 hp
  refine nxt_cut hs hp x _ hF (by have := ((hF _).1 (List.getElem_mem hj)).2; omega) (j + 1) (fun i hi c => ?_) (fun i hi c => ?_)
  · rcases Nat.lt_or_ge i j with c2 | c2
    · have := g i j hi hj c2
      omega
    · have e1 : i = j := by omega
      subst e1
      omega
  · have := g j i hj hi (by omega)
    omega
theorem nums_in {k : Int} {s : List R} (h : setB k s = true) (y : Int) : y ∈ nums s ↔ memR s y ∧ 0 ≤ y := by
  rw [nums_mem (sane_ok (setB_sane h))]
  constructor
  · intro m; exact ⟨m, (setB_mem h m).1⟩
  · intro m; exact m.1
theorem nums_beyond {k : Int} {s : List R} (h : setB k s = true) (x y : Int) : y ∈ (nums s).filter (fun t => decide (x ≤ t)) ↔ memR s y ∧ x ≤ y := by
  rw [List.mem_filter, nums_mem (sane_ok (setB_sane h)), decide_eq_true_eq]
theorem nums_bd {k : Int} {s : List R} (h : setB k s = true) {j : Nat} (hj : j < (nums s).length) : 0 ≤ (nums s)[j] ∧ (nums s)[j] ≤ 3652425 := by
  have m := (nums_mem (sane_ok (setB_sane h))).1 (List.getElem_mem hj)
  have := setB_mem h m
  have := (cnt_bd k).2
  omega
theorem filt_lt {L : List Int} (h : L.Pairwise (fun a b => a < b)) (q : Int → Bool) : (L.filter q).Pairwise (fun a b => a < b) := h.filter q
def lenV : Value → Nat
  | .slice _ n _ => n
  | _ => 0
theorem take_one {L : List Int} {g : Int → R} {j : Nat} (h : j < L.length) : (L.map g).take (j + 1) = (L.map g).take j ++ [g L[j]] := by
  rw [List.take_succ_eq_append_getElem (by simpa using h)]
  simp
end Go.Proofs.YtfphmhdgnokopaaGreatDoor

namespace Go.Proofs.YtfphmhdgnokopaaGreatDoor
open Go.RowKit
set_option linter.unusedVariables false
set_option linter.unusedSimpArgs false
set_option maxHeartbeats 16000000 in
set_option maxRecDepth 100000 in
theorem refPairs_u (u : Int) (s : List R) (f : LF) (va vb : Value) (n : Int) (w : World) (h : LeafOk w f va vb) (hg : lfOf (famR f) = ⟨false, u, s, []⟩) (hu : setB u s = true) (n1 : -9223372036854775808 ≤ n) (n2 : n ≤ 9223372036854775807) :
    Calls Tryz.prog 27 #[leafV f va vb, .int .i64 n] w fun e w' => ∃ v, e = .returned v ∧ RunsAt w' v (((nums s).map fun i => (firV u i, lasV u i)).take (min n 1000).toNat) ∧ Kp w w' := by
  obtain ⟨i0, hi, hz0, hz1, hz2⟩ := info_parts infoPair
  have C := Lib.hid (fun w1 (kk : Kp w w1) => refTidy_any f va vb w1 (h.kp kk))
  rw [hg] at C
  clear hg
  have ss := setB_sane hu
  have CN := Lib.hid (fun ad c x w1 (r : RunsAt w1 (.slice ad s.length c) s) (ii : I64R s) (hn : s.length ≤ 1000) => rnext_of (.slice ad s.length c) s x w1 (by have := asR_any _ s w1 r ii (by omega); rwa [nf_of_sane ss] at this) (by omega))
  have CF := Lib.hid (fun x w1 => rfirst_any u x w1)
  have CL := Lib.hid (fun x w1 => rlast_any u x w1)
  have N0 := nxt_first ss (nums_lt ss) 0 (nums_in hu)
  have NM := Lib.hid (fun j (hj : j < (nums s).length) => nxt_more ss (nums_lt ss) 0 (nums_in hu) j hj)
  have BD := Lib.hid (fun j (hj : j < (nums s).length) => nums_bd hu hj)
  have PT := Lib.hid (fun j (hj : j < (nums s).length) => take_one (g := fun i => (firV u i, lasV u i)) hj)
  have PL : ((nums s).map fun i => (firV u i, lasV u i)).length = (nums s).length := by simp
  generalize nums s = L at *
  generalize hP : (L.map fun i => (firV u i, lasV u i)) = P at *
  obtain ⟨x00, q00, h00⟩ : ∃ x q, nthI L 0 = (x, q) := ⟨_, _, rfl⟩
  rw [h00] at N0
  have CN0 := Lib.hid (fun ad c w1 r ii hn => CN.out ad c 0 w1 r ii hn)
  rw [N0] at CN0
  simp only at CN0
  have H00 := Lib.hid h00
  clear hP hu ss N0 h00
  obtain ⟨kI, hkI⟩ : ∃ x, min n 1000 = x := ⟨_, rfl⟩
  rw [hkI]
  have hk2 : kI ≤ 1000 := by omega
  have hk1 : -9223372036854775808 ≤ kI := by omega
  obtain ⟨K, hK⟩ : ∃ x, kI.toNat = x := ⟨_, rfl⟩
  rw [hK]
  obtain ⟨sp, u', a, b⟩ := f
  obtain ⟨ad, ca, rfl⟩ := h.a.slice
  obtain ⟨bd, cb, rfl⟩ := h.b.slice
  simp only [leafV] at C ⊢
  have K0 := Lib.hid (Kp.alloc w (.cells #[.bool sp, .int .i64 u', .slice ad a.length ca, .slice bd b.length cb] 24))
  clear h
  go_enter Tryz.func27, Tryz.ntmps27
  go_wp2_with fail
  refine (C.out _ K0.out).mono ?_
  rintro e w1 ⟨ga, gb, rfl, okg, kk⟩
  obtain ⟨aa, c1', e1⟩ := okg.a.slice
  obtain ⟨ab, c2', e2⟩ := okg.b.slice
  simp only [List.length_nil] at e1 e2
  subst e1 e2
  have na := okg.na
  simp only at na
  clear C
  obtain ⟨V, hV⟩ : ∃ x, x = w1.alloc (.cells #[.bool false, .int .i64 u, .slice aa s.length c1', .slice ab 0 c2'] 24) := ⟨_, rfl⟩
  have ka : Kp w1 V := by rw [hV]; exact Kp.alloc _ _
  have hgq : V.heap[w1.heap.size]? = some (.cells #[.bool false, .int .i64 u, .slice aa s.length c1', .slice ab 0 c2'] 24 (0, 0)) := by rw [hV]; exact heap_at _ _ _ rfl
  have g0 : V.cell? ⟨w1.heap.size, 0, none⟩ = some (.bool false) := by simp [World.cell?, hgq]
  have g1 : V.cell? ⟨w1.heap.size, 1, none⟩ = some (.int .i64 u) := by simp [World.cell?, hgq]
  have g2 : V.cell? ⟨w1.heap.size, 2, none⟩ = some (.slice aa s.length c1') := by simp [World.cell?, hgq]
  have g3 : V.cell? ⟨w1.heap.size, 3, none⟩ = some (.slice ab 0 c2') := by simp [World.cell?, hgq]
  have HB := Lib.hid (fun w' (kq : Kp V w') => show w'.cell? ⟨w1.heap.size, 0, none⟩ = some (.bool false) ∧ w'.cell? ⟨w1.heap.size, 1, none⟩ = some (.int .i64 u) ∧ w'.cell? ⟨w1.heap.size, 2, none⟩ = some (.slice aa s.length c1') ∧ w'.cell? ⟨w1.heap.size, 3, none⟩ = some (.slice ab 0 c2') from ⟨cell_up kq g0, cell_up kq g1, cell_up kq g2, cell_up kq g3⟩)
  have KV := Lib.hid (K0.out.trans (kk.trans ka))
  have HV := Lib.hid hV
  have OKV := Lib.hid (okg.kp ka)
  have ZV := Lib.hid (Kp.refl V)
  clear hV ka hgq kk okg g0 g1 g2 g3
  go_wp2_with fail
  rw [← HV.out]
  obtain ⟨e0, e1, e2, e3⟩ := HB.out V (Kp.refl _)
  refine (CN0.out _ _ _ (OKV.out.a.kp (by first | with_reducible exact ZV.out | with_reducible exact ZV.out.trans (Kp.alloc _ _) | with_reducible exact (ZV.out.trans (Kp.alloc _ _)).trans (Kp.alloc _ _) | with_reducible exact ((ZV.out.trans (Kp.alloc _ _)).trans (Kp.alloc _ _)).trans (Kp.alloc _ _) | with_reducible exact ZV.out.trans (Kp.drew _) | with_reducible exact ZV.out.trans (Kp.drewN _ _))) OKV.out.ia na).mono ?_
  rintro e w2 ⟨rfl, kk⟩
  have kz := (show Kp V _ from (by first | with_reducible exact ZV.out | with_reducible exact ZV.out.trans (Kp.alloc _ _) | with_reducible exact (ZV.out.trans (Kp.alloc _ _)).trans (Kp.alloc _ _) | with_reducible exact ((ZV.out.trans (Kp.alloc _ _)).trans (Kp.alloc _ _)).trans (Kp.alloc _ _) | with_reducible exact ZV.out.trans (Kp.drew _) | with_reducible exact ZV.out.trans (Kp.drewN _ _))).trans kk
  have K2 := Lib.hid kz
  have O0 := Lib.hid (show w2.ownsRow V.heap.size 26 2 (.slice none 0 0) 0 (cellsR (P.take 0)) from ⟨rfl, .inl ⟨rfl, rfl⟩⟩)
  clear kz kk e0 e1 e2 e3
  go_wp2
  go_loopw [7, 8, 9] (fun q i z wr => ∃ (j : Nat) (x : Int) (q0 : Bool), j ≤ K ∧ j ≤ L.length ∧ i = .int .i64 x ∧ z = .bool q0 ∧ Hid (nthI L j = (x, q0)) ∧ Hid (wr.ownsRow V.heap.size 26 2 q j (cellsR (P.take j))) ∧ Hid (Kp V wr)) (fun q _ _ _ => K - lenV q)
  case atStart => exact ⟨0, x00, q00, Nat.zero_le _, Nat.zero_le _, rfl, rfl, H00, O0, K2⟩
  case round =>
    obtain ⟨j, x, q0, hj, hjl, rfl, rfl, HN, OO, J⟩ := hrel
    have oo := OO.out
    obtain ⟨qa, qc, rfl⟩ := own_slice oo
    clear oo
    have fin : ∀ q, j = K ∨ ¬ j < L.length → q = P.take j → q = P.take K := by
      intro q h e
      rw [e]
      rcases h with h | h
      · rw [h]
      · rw [List.take_of_length_le (by omega), List.take_of_length_le (by omega)]
    have RR := Lib.hid (show j = K ∨ ¬ j < L.length → RunsAt wr (.slice qa j qc) (P.take K) by
      intro h
      rw [← fin _ h rfl]
      have hl : (P.take j).length = j := by rw [List.length_take]; omega
      have := OO.out
      exact runsAt_own (by rw [hl]; exact this))
    clear fin
    obtain ⟨e0, e1, e2, e3⟩ := HB.out wr J.out
    by_cases h1 : j < L.length
    · have en := nthI_yes h1
      have bd := BD.out j h1
      have nm := NM.out j h1
      have pt := PT.out j h1
      rw [HN.out] at en
      obtain ⟨hx, hq⟩ := Prod.mk.inj en
      subst hq
      rw [← hx] at bd nm pt
      clear en hx
      by_cases h2 : j < K
      · have t1 : decide ((j : Int) < kI) = true := decide_eq_true (by omega)
        have PTT := Lib.hid pt
        obtain ⟨x1, q1, h01⟩ : ∃ x q, nthI L (j + 1) = (x, q) := ⟨_, _, rfl⟩
        rw [h01] at nm
        have CN1 := Lib.hid (fun ad c w1 r ii hn => CN.out ad c (x + 1) w1 r ii hn)
        rw [nm] at CN1
        simp only at CN1
        have H01 := Lib.hid h01
        have CFx := Lib.hid (CF.out x)
        have CLx := Lib.hid (CL.out x)
        generalize firV u x = y1 at *
        generalize lasV u x = y2 at *
        generalize okU u x = y3 at *
        have wx : IntKind.i64.wrap (x + 1) = x + 1 := IntWalk.i64_in _ (by omega)
        clear pt nm h01 RR
        have O2 := Lib.hid (own_kp OO.out (Kp.alloc wr (.cells #[.int .i64 y1, .int .i64 y2] 26)))
        have KA := Lib.hid (J.out.trans (Kp.alloc wr (.cells #[.int .i64 y1, .int .i64 y2] 26)))
        go_wp2_with fail
        refine (CFx.out _).mono ?_
        rintro e w' ⟨rfl, rfl⟩
        go_wp2_with fail
        refine (CLx.out _).mono ?_
        rintro e w' ⟨rfl, rfl⟩
        go_wp2_with (at_builtin; refine wpList_app rfl (.tmp 52) (.tmp 56) 35 rfl V.heap.size 26 i0 (.agg #[.int .i64 0, .int .i64 0]) 2 16 Tryz.underlying35 hi hz0 hz1 hz2 rfl (by decide) _ _ _ rfl O2.out _ _ _ rfl (one_src wr _ _ _) (by rfl) (by intro u hu; simp at hu; rcases hu with rfl | rfl <;> rfl) (by unfold maxLen; omega) (by omega) KA.out.size ?_; intro v4 w4 own4 grow4 _; have K4 := Lib.hid (KA.out.grown grow4 (fun j hj => (O2.out.lt j hj).1)); have O4 := Lib.hid own4; obtain ⟨a4, cx4, rfl⟩ := own_slice own4; clear own4 grow4 e0 e1 e2 e3; obtain ⟨e0, e1, e2, e3⟩ := HB.out w4 K4.out)
        refine (CN1.out _ _ _ (OKV.out.a.kp (by first | with_reducible exact K4.out | with_reducible exact K4.out.trans (Kp.alloc _ _) | with_reducible exact (K4.out.trans (Kp.alloc _ _)).trans (Kp.alloc _ _) | with_reducible exact ((K4.out.trans (Kp.alloc _ _)).trans (Kp.alloc _ _)).trans (Kp.alloc _ _) | with_reducible exact K4.out.trans (Kp.drew _) | with_reducible exact K4.out.trans (Kp.drewN _ _))) OKV.out.ia na).mono ?_
        rintro e w5 ⟨rfl, kk⟩
        have K5 := Lib.hid ((show Kp V _ from (by first | with_reducible exact K4.out | with_reducible exact K4.out.trans (Kp.alloc _ _) | with_reducible exact (K4.out.trans (Kp.alloc _ _)).trans (Kp.alloc _ _) | with_reducible exact ((K4.out.trans (Kp.alloc _ _)).trans (Kp.alloc _ _)).trans (Kp.alloc _ _) | with_reducible exact K4.out.trans (Kp.drew _) | with_reducible exact K4.out.trans (Kp.drewN _ _))).trans kk)
        have O5 := Lib.hid (own_kp (own_kp O4.out (show Kp w4 _ from (by first | with_reducible exact Kp.refl _ | with_reducible exact Kp.alloc _ _ | with_reducible exact (Kp.alloc _ _).trans (Kp.alloc _ _) | with_reducible exact ((Kp.alloc _ _).trans (Kp.alloc _ _)).trans (Kp.alloc _ _) | with_reducible exact Kp.drew _ | with_reducible exact Kp.drewN _ _))) kk)
        have O6 := Lib.hid (show w5.ownsRow V.heap.size 26 2 (.slice a4 (j + 1) cx4) (j + 1) (cellsR (P.take (j + 1))) by rw [PTT.out, cellsR_append]; exact O5.out)
        clear kk
        go_wp2
        go_roundw
        case rel => exact ⟨j + 1, x1, q1, by omega, by omega, rfl, rfl, H01, O6, K5⟩
        case measure => simp [lenV]; omega
      · have t1 : decide ((j : Int) < kI) = false := decide_eq_false (by omega)
        have r := Lib.hid (RR.out (.inl (by omega)))
        go_wp2
        go_ret
        exact ⟨_, rfl, r.out, KV.out.trans J.out⟩
    · have en := nthI_no h1
      rw [HN.out] at en
      obtain ⟨hx, hq⟩ := Prod.mk.inj en
      subst hq
      clear en hx
      have r := Lib.hid (RR.out (.inr h1))
      go_wp2
      go_ret
      exact ⟨_, rfl, r.out, KV.out.trans J.out⟩
end Go.Proofs.YtfphmhdgnokopaaGreatDoor

namespace Go.Proofs.YtfphmhdgnokopaaGreatDoor
open Go.RowKit
set_option linter.unusedVariables false
set_option linter.unusedSimpArgs false
theorem take_full {l : List R} {K : Nat} (h : (l.take K).length < K) : l.take K = l := by
  rw [List.length_take] at h
  exact List.take_of_length_le (by omega)
theorem take_snoc {l : List R} {p : R} {K : Nat} (h : (l.take K).length < K) : (l ++ [p]).take K = l.take K ++ [p] := by
  rw [take_full h]
  rw [List.length_take] at h
  exact List.take_of_length_le (by simp; omega)
theorem take_pre {a b : List R} {K : Nat} (h : a <+: b) (h2 : ¬ (a.take K).length < K) : a.take K = b.take K := by
  obtain ⟨c, rfl⟩ := h
  rw [List.length_take] at h2
  rw [List.take_append_of_le_length (by omega)]
def beyF (t : List R) (x : Int) : List Int := (nums t).filter fun y => decide (x ≤ y)
def paR (t : List R) (l : List Int) : List R := l.flatMap fun x => (beyF t x).map fun y => (x, y)
def uR (s t : List R) (K j : Nat) : List R := (paR t ((nums s).take j)).take K
def wR (s t : List R) (K j : Nat) (x : Int) (m : Nat) : List R := (paR t ((nums s).take j) ++ ((beyF t x).take m).map fun y => (x, y)).take K
theorem uR_zero (s t : List R) (K : Nat) : uR s t K 0 = [] := by unfold uR paR; simp
theorem wR_zero (s t : List R) (K j : Nat) (x : Int) : wR s t K j x 0 = uR s t K j := by unfold uR wR; simp
theorem uR_len (s t : List R) (K j : Nat) : (uR s t K j).length ≤ K := by unfold uR; rw [List.length_take]; omega
theorem wR_len (s t : List R) (K j : Nat) (x : Int) (m : Nat) : (wR s t K j x m).length ≤ K := by unfold wR; rw [List.length_take]; omega
theorem wR_next {s t : List R} {K j : Nat} {x : Int} {m : Nat} (h : m < (beyF t x).length) (g : (wR s t K j x m).length < K) : wR s t K j x (m + 1) = wR s t K j x m ++ [(x, (beyF t x)[m])] := by
  unfold wR at g ⊢
  rw [List.take_succ_eq_append_getElem h, List.map_append, ← List.append_assoc]
  exact take_snoc g
theorem paR_next {s t : List R} {j : Nat} (h : j < (nums s).length) : paR t ((nums s).take (j + 1)) = paR t ((nums s).take j) ++ (beyF t (nums s)[j]).map fun y => ((nums s)[j], y) := by
  unfold paR
  rw [List.take_succ_eq_append_getElem h, List.flatMap_append]
  simp
theorem wR_end {s t : List R} {K j m : Nat} (h : j < (nums s).length) (g : ¬ m < (beyF t (nums s)[j]).length ∨ ¬ (wR s t K j (nums s)[j] m).length < K) : wR s t K j (nums s)[j] m = uR s t K (j + 1) := by
  unfold wR uR at *
  rw [paR_next h]
  rcases g with g | g
  · rw [List.take_of_length_le (show (beyF t (nums s)[j]).length ≤ m by omega)]
  · refine take_pre ?_ g
    exact (List.prefix_append_right_inj _).2 ((List.take_prefix m _).map _)
theorem uR_end {s t : List R} {K j : Nat} (g : ¬ j < (nums s).length ∨ ¬ (uR s t K j).length < K) : uR s t K j = (pairsF (.span s t)).take K := by
  have e : pairsF (.span s t) = paR t (nums s) := rfl
  rw [e]
  unfold uR at *
  rcases g with g | g
  · rw [List.take_of_length_le (show (nums s).length ≤ j by omega)]
  · refine take_pre ?_ g
    unfold paR
    obtain ⟨c, hc⟩ := List.take_prefix j (nums s)
    exact ⟨c.flatMap fun x => (beyF t x).map fun y => (x, y), by rw [← List.flatMap_append, hc]⟩
theorem nthI_step {L : List Int} (hp : L.Pairwise (fun a b => a < b)) (hb : ∀ y ∈ L, y ≤ 3652425) {j : Nat} (h : j < L.length) {x1 : Int} {q1 : Bool} (e : nthI L (j + 1) = (x1, q1)) : q1 = true → L[j] < x1 ∧ x1 ≤ 3652425 := by
  intro c
  by_cases g : j + 1 < L.length
  · rw [nthI_yes g] at e
    obtain ⟨rfl, _⟩ := Prod.mk.inj e
    exact ⟨List.pairwise_iff_getElem.1 hp j (j + 1) h g (by omega), hb _ (List.getElem_mem g)⟩
  · rw [nthI_no g] at e
    obtain ⟨_, rfl⟩ := Prod.mk.inj e
    cases c
def boolV : Value → Bool
  | .bool b => b
  | _ => false
def msr (i z : Value) : Nat := if boolV z = true then (3652430 - intOf i).toNat + 1 else 0
theorem msr_less {x x1 : Int} {q1 : Bool} (h : q1 = true → x < x1 ∧ x1 ≤ 3652425) : msr (.int .i64 x1) (.bool q1) < msr (.int .i64 x) (.bool true) := by
  cases q1 with
  | false => simp [msr, boolV]
  | true =>
    have := h rfl
    simp only [msr, boolV, intOf, if_true]
    omega
set_option maxHeartbeats 16000000 in
set_option maxRecDepth 100000 in
theorem refSpan_any (s t : List R) (va vb : Value) (kI : Int) (w : World) (h : LeafOk w ⟨true, 0, s, t⟩ va vb) (hs : setB 0 s = true) (ht : setB 0 t = true) (hk1 : -9223372036854775808 ≤ kI) (hk2 : kI ≤ 1000) :
    Calls Tryz.prog 79 #[.agg #[.bool true, .int .i64 0, va, vb], .int .i64 kI] w fun e w' => ∃ v, e = .returned v ∧ RunsAt w' v ((pairsF (.span s t)).take kI.toNat) ∧ Kp w w' := by
  obtain ⟨i0, hi, hz0, hz1, hz2⟩ := info_parts infoPair
  have ss := setB_sane hs
  have st := setB_sane ht
  have CN := Lib.hid (fun ad c x w1 (r : RunsAt w1 (.slice ad s.length c) s) (ii : I64R s) (hn : s.length ≤ 1000) => rnext_of (.slice ad s.length c) s x w1 (by have := asR_any _ s w1 r ii (by omega); rwa [nf_of_sane ss] at this) (by omega))
  have CM := Lib.hid (fun ad c x w1 (r : RunsAt w1 (.slice ad t.length c) t) (ii : I64R t) (hn : t.length ≤ 1000) => rnext_of (.slice ad t.length c) t x w1 (by have := asR_any _ t w1 r ii (by omega); rwa [nf_of_sane st] at this) (by omega))
  have N0 := nxt_first ss (nums_lt ss) 0 (nums_in hs)
  have NM := Lib.hid (fun j (hj : j < (nums s).length) => nxt_more ss (nums_lt ss) 0 (nums_in hs) j hj)
  have BD := Lib.hid (fun j (hj : j < (nums s).length) => nums_bd hs hj)
  have ST := Lib.hid (fun j (hj : j < (nums s).length) x1 q1 e => nthI_step (x1 := x1) (q1 := q1) (nums_lt ss) (fun y hy => by
    have m := (nums_mem (sane_ok ss)).1 hy
    have := setB_mem hs m
    rw [cnt_zero] at this
    omega) hj e)
  have fl : ∀ x, (beyF t x).Pairwise (fun a b => a < b) := fun x => filt_lt (nums_lt st) (fun y => decide (x ≤ y))
  have M0 := Lib.hid (fun x => show nxt t x = nthI (beyF t x) 0 from nxt_first st (fl x) x (nums_beyond ht x))
  have MM := Lib.hid (fun x m (hm : m < (beyF t x).length) => show nxt t ((beyF t x)[m] + 1) = nthI (beyF t x) (m + 1) from nxt_more st (fl x) x (nums_beyond ht x) m hm)
  have mb : ∀ x, ∀ y ∈ beyF t x, 0 ≤ y ∧ y ≤ 3652425 := fun x y hy => by
    have m := ((nums_beyond ht x y).1 hy).1
    have := setB_mem ht m
    rw [cnt_zero] at this
    omega
  have MB := Lib.hid (fun x m (hm : m < (beyF t x).length) => mb x _ (List.getElem_mem hm))
  have MS := Lib.hid (fun x m (hm : m < (beyF t x).length) x1 q1 e => nthI_step (x1 := x1) (q1 := q1) (fl x) (fun y hy => (mb x y hy).2) hm e)
  obtain ⟨K, hK⟩ : ∃ x, kI.toNat = x := ⟨_, rfl⟩
  rw [hK]
  have U0 := Lib.hid (uR_zero s t K)
  have UL := Lib.hid (fun j => uR_len s t K j)
  have UE := Lib.hid (fun j g => uR_end (s := s) (t := t) (K := K) (j := j) g)
  have W0' := Lib.hid (fun j x => wR_zero s t K j x)
  have WL := Lib.hid (fun j x m => wR_len s t K j x m)
  have WN := Lib.hid (fun j x m h g => wR_next (s := s) (t := t) (K := K) (j := j) (x := x) (m := m) h g)
  have WE := Lib.hid (fun j m h g => wR_end (s := s) (t := t) (K := K) (j := j) (m := m) h g)
  generalize pairsF (.span s t) = P at *
  generalize uR s t K = U at *
  generalize wR s t K = W at *
  generalize beyF t = F at *
  generalize nums s = L at *
  obtain ⟨x00, q00, h00⟩ : ∃ x q, nthI L 0 = (x, q) := ⟨_, _, rfl⟩
  rw [h00] at N0
  have CN0 := Lib.hid (fun ad c w1 r ii hn => CN.out ad c 0 w1 r ii hn)
  rw [N0] at CN0
  simp only at CN0
  have H00 := Lib.hid h00
  obtain ⟨aa, ca, rfl⟩ := h.a.slice
  obtain ⟨ab, cb, rfl⟩ := h.b.slice
  simp only
  have na := h.na
  have nb := h.nb
  simp only at na nb
  obtain ⟨V, hV⟩ : ∃ x, x = w.alloc (.cells #[.bool true, .int .i64 0, .slice aa s.length ca, .slice ab t.length cb] 24) := ⟨_, rfl⟩
  have ka : Kp w V := by rw [hV]; exact Kp.alloc _ _
  have hgq : V.heap[w.heap.size]? = some (.cells #[.bool true, .int .i64 0, .slice aa s.length ca, .slice ab t.length cb] 24 (0, 0)) := by rw [hV]; exact heap_at _ _ _ rfl
  have g0 : V.cell? ⟨w.heap.size, 0, none⟩ = some (.bool true) := by simp [World.cell?, hgq]
  have g1 : V.cell? ⟨w.heap.size, 1, none⟩ = some (.int .i64 0) := by simp [World.cell?, hgq]
  have g2 : V.cell? ⟨w.heap.size, 2, none⟩ = some (.slice aa s.length ca) := by simp [World.cell?, hgq]
  have g3 : V.cell? ⟨w.heap.size, 3, none⟩ = some (.slice ab t.length cb) := by simp [World.cell?, hgq]
  have HB := Lib.hid (fun w' (kq : Kp V w') => show w'.cell? ⟨w.heap.size, 0, none⟩ = some (.bool true) ∧ w'.cell? ⟨w.heap.size, 1, none⟩ = some (.int .i64 0) ∧ w'.cell? ⟨w.heap.size, 2, none⟩ = some (.slice aa s.length ca) ∧ w'.cell? ⟨w.heap.size, 3, none⟩ = some (.slice ab t.length cb) from ⟨cell_up kq g0, cell_up kq g1, cell_up kq g2, cell_up kq g3⟩)
  have KV := Lib.hid ka
  have HV := Lib.hid hV
  have OKV := Lib.hid (h.kp ka)
  have ZV := Lib.hid (Kp.refl V)
  clear hV ka hgq h g0 g1 g2 g3 hs ht ss st N0 h00 fl mb
  go_enter Tryz.func79, Tryz.ntmps79
  go_wp2_with fail
  rw [← HV.out]
  refine (CN0.out _ _ _ (OKV.out.a.kp (by first | with_reducible exact ZV.out | with_reducible exact ZV.out.trans (Kp.alloc _ _) | with_reducible exact (ZV.out.trans (Kp.alloc _ _)).trans (Kp.alloc _ _) | with_reducible exact ((ZV.out.trans (Kp.alloc _ _)).trans (Kp.alloc _ _)).trans (Kp.alloc _ _) | with_reducible exact ZV.out.trans (Kp.drew _) | with_reducible exact ZV.out.trans (Kp.drewN _ _))) OKV.out.ia na).mono ?_
  rintro e w2 ⟨rfl, kk⟩
  have kz := (show Kp V _ from (by first | with_reducible exact ZV.out | with_reducible exact ZV.out.trans (Kp.alloc _ _) | with_reducible exact (ZV.out.trans (Kp.alloc _ _)).trans (Kp.alloc _ _) | with_reducible exact ((ZV.out.trans (Kp.alloc _ _)).trans (Kp.alloc _ _)).trans (Kp.alloc _ _) | with_reducible exact ZV.out.trans (Kp.drew _) | with_reducible exact ZV.out.trans (Kp.drewN _ _))).trans kk
  have K2 := Lib.hid kz
  have O0 := Lib.hid (show w2.ownsRow V.heap.size 26 2 (.slice none 0 0) (U 0).length (cellsR (U 0)) by rw [U0.out]; exact ⟨rfl, .inl ⟨rfl, rfl⟩⟩)
  clear kz kk
  go_wp2
  go_loopw [5, 6, 7] (fun q i z wr => ∃ (j : Nat) (x : Int) (q0 : Bool), j ≤ L.length ∧ i = .int .i64 x ∧ z = .bool q0 ∧ Hid (nthI L j = (x, q0)) ∧ Hid (wr.ownsRow V.heap.size 26 2 q (U j).length (cellsR (U j))) ∧ Hid (Kp V wr)) (fun _ i z _ => msr i z)
  case atStart => exact ⟨0, x00, q00, Nat.zero_le _, rfl, rfl, H00, O0, K2⟩
  case round =>
    obtain ⟨j, x, q0, hjl, rfl, rfl, HN, OO, J⟩ := hrel
    have oo := OO.out
    obtain ⟨qa, qc, rfl⟩ := own_slice oo
    have ul := UL.out j
    have RR := Lib.hid (fun g => show RunsAt wr (.slice qa (U j).length qc) (P.take K) by rw [← UE.out j g]; exact runsAt_own OO.out)
    clear oo
    by_cases h1 : j < L.length
    · have en := nthI_yes h1
      have bd := BD.out j h1
      have nm := NM.out j h1
      have we := Lib.hid (fun m g => WE.out j m h1 g)
      have sx := Lib.hid (fun x1 q1 e => ST.out j h1 x1 q1 e)
      rw [HN.out] at en
      obtain ⟨hx, hq⟩ := Prod.mk.inj en
      subst hq
      rw [← hx] at bd nm we sx
      clear en hx
      by_cases h2 : (U j).length < K
      · have t1 : decide (((U j).length : Int) < kI) = true := decide_eq_true (by omega)
        obtain ⟨x1, q1, h01⟩ : ∃ x q, nthI L (j + 1) = (x, q) := ⟨_, _, rfl⟩
        rw [h01] at nm
        have CN1 := Lib.hid (fun ad c w1 r ii hn => CN.out ad c (x + 1) w1 r ii hn)
        rw [nm] at CN1
        simp only at CN1
        have H01 := Lib.hid h01
        have ms := Lib.hid (msr_less (sx.out x1 q1 h01))
        have wx : IntKind.i64.wrap (x + 1) = x + 1 := IntWalk.i64_in _ (by omega)
        obtain ⟨y00, z00, g00⟩ : ∃ x' q, nthI (F x) 0 = (x', q) := ⟨_, _, rfl⟩
        have m0 := M0.out x
        rw [g00] at m0
        have CM0 := Lib.hid (fun ad c w1 r ii hn => CM.out ad c x w1 r ii hn)
        rw [m0] at CM0
        simp only at CM0
        have G00 := Lib.hid g00
        have OW := Lib.hid (show wr.ownsRow V.heap.size 26 2 (.slice qa (W j x 0).length qc) (W j x 0).length (cellsR (W j x 0)) by rw [W0'.out]; exact OO.out)
        have lw := W0'.out j x
        have MM1 := Lib.hid (fun m hm => MM.out x m hm)
        have MB1 := Lib.hid (fun m hm => MB.out x m hm)
        have MS1 := Lib.hid (fun m hm x1 q1 e => MS.out x m hm x1 q1 e)
        have WN1 := Lib.hid (fun m h g => WN.out j x m h g)
        have WL1 := Lib.hid (fun m => WL.out j x m)
        rw [← lw] at t1 h2 ul ⊢
        generalize F x = E at *
        generalize W j x = Y at *
        clear nm h01 g00 m0 lw sx RR
        obtain ⟨e0, e1, e2, e3⟩ := HB.out wr J.out
        have ZR := Lib.hid (J.out)
        go_wp2_with fail
        refine (CM0.out _ _ _ (OKV.out.b.kp (by first | with_reducible exact ZR.out | with_reducible exact ZR.out.trans (Kp.alloc _ _) | with_reducible exact (ZR.out.trans (Kp.alloc _ _)).trans (Kp.alloc _ _) | with_reducible exact ((ZR.out.trans (Kp.alloc _ _)).trans (Kp.alloc _ _)).trans (Kp.alloc _ _) | with_reducible exact ZR.out.trans (Kp.drew _) | with_reducible exact ZR.out.trans (Kp.drewN _ _))) OKV.out.ib nb).mono ?_
        rintro e w3 ⟨rfl, kk⟩
        have K3 := Lib.hid ((show Kp V _ from (by first | with_reducible exact ZR.out | with_reducible exact ZR.out.trans (Kp.alloc _ _) | with_reducible exact (ZR.out.trans (Kp.alloc _ _)).trans (Kp.alloc _ _) | with_reducible exact ((ZR.out.trans (Kp.alloc _ _)).trans (Kp.alloc _ _)).trans (Kp.alloc _ _) | with_reducible exact ZR.out.trans (Kp.drew _) | with_reducible exact ZR.out.trans (Kp.drewN _ _))).trans kk)
        have O3 := Lib.hid (own_kp OW.out ((show Kp wr _ from (by first | with_reducible exact Kp.refl _ | with_reducible exact Kp.alloc _ _ | with_reducible exact (Kp.alloc _ _).trans (Kp.alloc _ _) | with_reducible exact ((Kp.alloc _ _).trans (Kp.alloc _ _)).trans (Kp.alloc _ _) | with_reducible exact Kp.drew _ | with_reducible exact Kp.drewN _ _)).trans kk))
        clear kk e0 e1 e2 e3
        go_wp2
        go_loopw [5, 8, 9] (fun q i z wr => ∃ (m : Nat) (y : Int) (p0 : Bool), m ≤ E.length ∧ i = .int .i64 y ∧ z = .bool p0 ∧ Hid (nthI E m = (y, p0)) ∧ Hid (wr.ownsRow V.heap.size 26 2 q (Y m).length (cellsR (Y m))) ∧ Hid (Kp V wr)) (fun _ i z _ => msr i z)
        case atStart => exact ⟨0, y00, z00, Nat.zero_le _, rfl, rfl, G00, O3, K3⟩
        case round =>
          obtain ⟨m, y, p0, hml, rfl, rfl, HM, OQ, JQ⟩ := hrel
          have oo := OQ.out
          obtain ⟨ra, rc, rfl⟩ := own_slice oo
          have yl := WL1.out m
          clear oo
          obtain ⟨e0, e1, e2, e3⟩ := HB.out wr JQ.out
          by_cases h3 : m < E.length
          · have en := nthI_yes h3
            have mm := MM1.out m h3
            have mb := MB1.out m h3
            have sy := Lib.hid (fun x1 q1 e => MS1.out m h3 x1 q1 e)
            have wn0 := Lib.hid (fun g => WN1.out m h3 g)
            rw [HM.out] at en
            obtain ⟨hy, hq⟩ := Prod.mk.inj en
            subst hq
            rw [← hy] at mm mb sy wn0
            clear en hy
            by_cases h4 : (Y m).length < K
            · have t2 : decide (((Y m).length : Int) < kI) = true := decide_eq_true (by omega)
              obtain ⟨y1, p1, g01⟩ : ∃ x q, nthI E (m + 1) = (x, q) := ⟨_, _, rfl⟩
              rw [g01] at mm
              have CM1 := Lib.hid (fun ad c w1 r ii hn => CM.out ad c (y + 1) w1 r ii hn)
              rw [mm] at CM1
              simp only at CM1
              have G01 := Lib.hid g01
              have ms2 := Lib.hid (msr_less (sy.out y1 p1 g01))
              have wn := Lib.hid (wn0.out h4)
              have wy : IntKind.i64.wrap (y + 1) = y + 1 := IntWalk.i64_in _ (by omega)
              have O2 := Lib.hid (own_kp OQ.out (Kp.alloc wr (.cells #[.int .i64 x, .int .i64 y] 26)))
              have KA := Lib.hid (JQ.out.trans (Kp.alloc wr (.cells #[.int .i64 x, .int .i64 y] 26)))
              clear mm g01 sy wn0
              go_wp2_with (at_builtin; refine wpList_app rfl (.tmp 41) (.tmp 45) 35 rfl V.heap.size 26 i0 (.agg #[.int .i64 0, .int .i64 0]) 2 16 Tryz.underlying35 hi hz0 hz1 hz2 rfl (by decide) _ _ _ rfl O2.out _ _ _ rfl (one_src wr _ _ _) (by rfl) (by intro u hu; simp at hu; rcases hu with rfl | rfl <;> rfl) (by unfold maxLen; omega) (by omega) KA.out.size ?_; intro v4 w4 own4 grow4 _; have K4 := Lib.hid (KA.out.grown grow4 (fun j hj => (O2.out.lt j hj).1)); have O4 := Lib.hid own4; obtain ⟨a4, cx4, rfl⟩ := own_slice own4; clear own4 grow4 e0 e1 e2 e3; obtain ⟨e0, e1, e2, e3⟩ := HB.out w4 K4.out)
              refine (CM1.out _ _ _ (OKV.out.b.kp (by first | with_reducible exact K4.out | with_reducible exact K4.out.trans (Kp.alloc _ _) | with_reducible exact (K4.out.trans (Kp.alloc _ _)).trans (Kp.alloc _ _) | with_reducible exact ((K4.out.trans (Kp.alloc _ _)).trans (Kp.alloc _ _)).trans (Kp.alloc _ _) | with_reducible exact K4.out.trans (Kp.drew _) | with_reducible exact K4.out.trans (Kp.drewN _ _))) OKV.out.ib nb).mono ?_
              rintro e w5 ⟨rfl, kk⟩
              have K5 := Lib.hid ((show Kp V _ from (by first | with_reducible exact K4.out | with_reducible exact K4.out.trans (Kp.alloc _ _) | with_reducible exact (K4.out.trans (Kp.alloc _ _)).trans (Kp.alloc _ _) | with_reducible exact ((K4.out.trans (Kp.alloc _ _)).trans (Kp.alloc _ _)).trans (Kp.alloc _ _) | with_reducible exact K4.out.trans (Kp.drew _) | with_reducible exact K4.out.trans (Kp.drewN _ _))).trans kk)
              have O5 := Lib.hid (own_kp (own_kp O4.out (show Kp w4 _ from (by first | with_reducible exact Kp.refl _ | with_reducible exact Kp.alloc _ _ | with_reducible exact (Kp.alloc _ _).trans (Kp.alloc _ _) | with_reducible exact ((Kp.alloc _ _).trans (Kp.alloc _ _)).trans (Kp.alloc _ _) | with_reducible exact Kp.drew _ | with_reducible exact Kp.drewN _ _))) kk)
              have O6 := Lib.hid (show w5.ownsRow V.heap.size 26 2 (.slice a4 ((Y m).length + 1) cx4) (Y (m + 1)).length (cellsR (Y (m + 1))) by rw [wn.out, cellsR_append, List.length_append]; exact O5.out)
              clear kk
              go_wp2
              go_roundw
              case rel => exact ⟨m + 1, y1, p1, by omega, rfl, rfl, G01, O6, K5⟩
              case measure => exact ms2.out
            · have t2 : decide (((Y m).length : Int) < kI) = false := decide_eq_false (by omega)
              have ye := we.out m (.inr h4)
              have OU := Lib.hid (show wr.ownsRow V.heap.size 26 2 (.slice ra (Y m).length rc) (U (j + 1)).length (cellsR (U (j + 1))) by rw [← ye]; exact OQ.out)
              have ZQ := Lib.hid JQ.out
              clear ye
              go_wp2_with fail
              refine (CN1.out _ _ _ (OKV.out.a.kp (by first | with_reducible exact ZQ.out | with_reducible exact ZQ.out.trans (Kp.alloc _ _) | with_reducible exact (ZQ.out.trans (Kp.alloc _ _)).trans (Kp.alloc _ _) | with_reducible exact ((ZQ.out.trans (Kp.alloc _ _)).trans (Kp.alloc _ _)).trans (Kp.alloc _ _) | with_reducible exact ZQ.out.trans (Kp.drew _) | with_reducible exact ZQ.out.trans (Kp.drewN _ _))) OKV.out.ia na).mono ?_
              rintro e w6 ⟨rfl, kk⟩
              have K6 := Lib.hid ((show Kp V _ from (by first | with_reducible exact ZQ.out | with_reducible exact ZQ.out.trans (Kp.alloc _ _) | with_reducible exact (ZQ.out.trans (Kp.alloc _ _)).trans (Kp.alloc _ _) | with_reducible exact ((ZQ.out.trans (Kp.alloc _ _)).trans (Kp.alloc _ _)).trans (Kp.alloc _ _) | with_reducible exact ZQ.out.trans (Kp.drew _) | with_reducible exact ZQ.out.trans (Kp.drewN _ _))).trans kk)
              have O6 := Lib.hid (own_kp OU.out ((show Kp wr _ from (by first | with_reducible exact Kp.refl _ | with_reducible exact Kp.alloc _ _ | with_reducible exact (Kp.alloc _ _).trans (Kp.alloc _ _) | with_reducible exact ((Kp.alloc _ _).trans (Kp.alloc _ _)).trans (Kp.alloc _ _) | with_reducible exact Kp.drew _ | with_reducible exact Kp.drewN _ _)).trans kk))
              clear kk
              go_wp2
              go_roundw
              case rel => exact ⟨j + 1, x1, q1, by omega, rfl, rfl, H01, O6, K6⟩
              case measure => exact ms.out
          · have en := nthI_no h3
            rw [HM.out] at en
            obtain ⟨hy, hq⟩ := Prod.mk.inj en
            subst hq
            clear en hy
            have ye := we.out m (.inl h3)
            have OU := Lib.hid (show wr.ownsRow V.heap.size 26 2 (.slice ra (Y m).length rc) (U (j + 1)).length (cellsR (U (j + 1))) by rw [← ye]; exact OQ.out)
            have ZQ := Lib.hid JQ.out
            clear ye
            go_wp2_with fail
            refine (CN1.out _ _ _ (OKV.out.a.kp (by first | with_reducible exact ZQ.out | with_reducible exact ZQ.out.trans (Kp.alloc _ _) | with_reducible exact (ZQ.out.trans (Kp.alloc _ _)).trans (Kp.alloc _ _) | with_reducible exact ((ZQ.out.trans (Kp.alloc _ _)).trans (Kp.alloc _ _)).trans (Kp.alloc _ _) | with_reducible exact ZQ.out.trans (Kp.drew _) | with_reducible exact ZQ.out.trans (Kp.drewN _ _))) OKV.out.ia na).mono ?_
            rintro e w6 ⟨rfl, kk⟩
            have K6 := Lib.hid ((show Kp V _ from (by first | with_reducible exact ZQ.out | with_reducible exact ZQ.out.trans (Kp.alloc _ _) | with_reducible exact (ZQ.out.trans (Kp.alloc _ _)).trans (Kp.alloc _ _) | with_reducible exact ((ZQ.out.trans (Kp.alloc _ _)).trans (Kp.alloc _ _)).trans (Kp.alloc _ _) | with_reducible exact ZQ.out.trans (Kp.drew _) | with_reducible exact ZQ.out.trans (Kp.drewN _ _))).trans kk)
            have O6 := Lib.hid (own_kp OU.out ((show Kp wr _ from (by first | with_reducible exact Kp.refl _ | with_reducible exact Kp.alloc _ _ | with_reducible exact (Kp.alloc _ _).trans (Kp.alloc _ _) | with_reducible exact ((Kp.alloc _ _).trans (Kp.alloc _ _)).trans (Kp.alloc _ _) | with_reducible exact Kp.drew _ | with_reducible exact Kp.drewN _ _)).trans kk))
            clear kk
            go_wp2
            go_roundw
            case rel => exact ⟨j + 1, x1, q1, by omega, rfl, rfl, H01, O6, K6⟩
            case measure => exact ms.out
      · have t1 : decide (((U j).length : Int) < kI) = false := decide_eq_false (by omega)
        have r := Lib.hid (RR.out (.inr h2))
        go_wp2
        go_ret
        exact ⟨_, rfl, r.out, KV.out.trans J.out⟩
    · have en := nthI_no h1
      rw [HN.out] at en
      obtain ⟨hx, hq⟩ := Prod.mk.inj en
      subst hq
      clear en hx
      have r := Lib.hid (RR.out (.inl h1))
      go_wp2
      go_ret
      exact ⟨_, rfl, r.out, KV.out.trans J.out⟩
end Go.Proofs.YtfphmhdgnokopaaGreatDoor

namespace Go.Proofs.YtfphmhdgnokopaaGreatDoor
open Go.RowKit
set_option linter.unusedVariables false
set_option linter.unusedSimpArgs false
theorem pairsF_none {F : Fam} (h : emptyF F = true) : pairsF F = [] := by
  cases F with
  | units k s =>
    have h1 : s = [] := List.length_eq_zero_iff.1 (of_decide_eq_true h)
    subst h1
    rfl
  | span s e =>
    have h1 : s = [] := List.length_eq_zero_iff.1 (of_decide_eq_true h)
    subst h1
    rfl
set_option maxHeartbeats 16000000 in
set_option maxRecDepth 100000 in
theorem refPairs_s (s t : List R) (f : LF) (va vb : Value) (n : Int) (w : World) (h : LeafOk w f va vb) (hg : lfOf (famR f) = ⟨true, 0, s, t⟩) (hs : setB 0 s = true) (ht : setB 0 t = true) (n1 : -9223372036854775808 ≤ n) (n2 : n ≤ 9223372036854775807) :
    Calls Tryz.prog 27 #[leafV f va vb, .int .i64 n] w fun e w' => ∃ v, e = .returned v ∧ RunsAt w' v ((pairsF (.span s t)).take (min n 1000).toNat) ∧ Kp w w' := by
  have C := Lib.hid (fun w1 (kk : Kp w w1) => refTidy_any f va vb w1 (h.kp kk))
  rw [hg] at C
  clear hg
  have CS := Lib.hid (fun va vb w1 (ok : LeafOk w1 ⟨true, 0, s, t⟩ va vb) => refSpan_any s t va vb (min n 1000) w1 ok hs ht (by omega) (by omega))
  obtain ⟨P, hP⟩ : ∃ x, (pairsF (.span s t)).take (min n 1000).toNat = x := ⟨_, rfl⟩
  rw [hP] at CS ⊢
  clear hP hs ht
  obtain ⟨kI, hkI⟩ : ∃ x, min n 1000 = x := ⟨_, rfl⟩
  rw [hkI] at CS
  obtain ⟨sp, u', a, b⟩ := f
  obtain ⟨ad, ca, rfl⟩ := h.a.slice
  obtain ⟨bd, cb, rfl⟩ := h.b.slice
  simp only [leafV] at C ⊢
  have K0 := Lib.hid (Kp.alloc w (.cells #[.bool sp, .int .i64 u', .slice ad a.length ca, .slice bd b.length cb] 24))
  clear h
  go_enter Tryz.func27, Tryz.ntmps27
  go_wp2_with fail
  refine (C.out _ K0.out).mono ?_
  rintro e w1 ⟨ga, gb, rfl, okg, kk⟩
  obtain ⟨aa, c1', e1⟩ := okg.a.slice
  obtain ⟨ab, c2', e2⟩ := okg.b.slice
  simp only at e1 e2
  subst e1 e2
  clear C
  obtain ⟨V, hV⟩ : ∃ x, x = w1.alloc (.cells #[.bool true, .int .i64 0, .slice aa s.length c1', .slice ab t.length c2'] 24) := ⟨_, rfl⟩
  have ka : Kp w1 V := by rw [hV]; exact Kp.alloc _ _
  have KV := Lib.hid (K0.out.trans (kk.trans ka))
  have HV := Lib.hid hV
  have OKV := Lib.hid (okg.kp ka)
  have ZV := Lib.hid (Kp.refl V)
  clear hV ka kk okg
  go_wp2_with fail
  rw [← HV.out]
  refine (CS.out _ _ _ (OKV.out.kp (by first | with_reducible exact ZV.out | with_reducible exact ZV.out.trans (Kp.alloc _ _) | with_reducible exact (ZV.out.trans (Kp.alloc _ _)).trans (Kp.alloc _ _) | with_reducible exact ((ZV.out.trans (Kp.alloc _ _)).trans (Kp.alloc _ _)).trans (Kp.alloc _ _) | with_reducible exact ZV.out.trans (Kp.drew _) | with_reducible exact ZV.out.trans (Kp.drewN _ _)))).mono ?_
  rintro e w2 ⟨v2, rfl, r2, kk⟩
  have R2 := Lib.hid r2
  have K2 := Lib.hid (KV.out.trans ((show Kp V _ from (by first | with_reducible exact ZV.out | with_reducible exact ZV.out.trans (Kp.alloc _ _) | with_reducible exact (ZV.out.trans (Kp.alloc _ _)).trans (Kp.alloc _ _) | with_reducible exact ((ZV.out.trans (Kp.alloc _ _)).trans (Kp.alloc _ _)).trans (Kp.alloc _ _) | with_reducible exact ZV.out.trans (Kp.drew _) | with_reducible exact ZV.out.trans (Kp.drewN _ _))).trans kk))
  clear r2 kk
  go_wp2
  go_ret
  exact ⟨_, rfl, R2.out, K2.out⟩
theorem refPairs_any (f : LF) (va vb : Value) (n : Int) (w : World) (h : LeafOk w f va vb) (n1 : -9223372036854775808 ≤ n) (n2 : n ≤ 9223372036854775807) :
    Calls Tryz.prog 27 #[leafV f va vb, .int .i64 n] w fun e w' => ∃ v, e = .returned v ∧ RunsAt w' v ((pairsF (famR f)).take (min n 1000).toNat) ∧ Kp w w' := by
  have hF := famR_ok f
  rcases Bool.eq_false_or_eq_true (emptyF (famR f)) with h0 | h0
  · rw [pairsF_none h0]
    have := refPairs_u 0 [] f va vb n w h (lfOf_none h0) (setB_nil 0) n1 n2
    exact this
  · cases hf : famR f with
    | units k s =>
      rw [hf] at h0 hF
      exact refPairs_u k s f va vb n w h (by rw [hf]; exact lfOf_u1 (of_decide_eq_false h0)) hF n1 n2
    | span s t =>
      rw [hf] at h0 hF
      exact refPairs_s s t f va vb n w h (by rw [hf]; exact lfOf_s1 (of_decide_eq_false h0)) hF.1 hF.2.1 n1 n2
end Go.Proofs.YtfphmhdgnokopaaGreatDoor

namespace Go.Proofs.YtfphmhdgnokopaaGreatDoor
open Go.RowKit
set_option linter.unusedVariables false
set_option linter.unusedSimpArgs false
theorem units_none (k : Int) : unitsR k [] = [] := by
  refine no_mem (unitsR_sane k []) fun m hm => ?_
  exact absurd ((unitsR_mem k [] m).1 hm).1 (memR_nil m)
theorem edg_none (V : Int → Int) (k : Int) : edgB k [] = true ∧ edgR V k [] = [] := by
  have e : edgB k [] = true := by
    unfold edgB
    rw [units_none]
    split <;> simp [nums]
  refine ⟨e, ?_⟩
  unfold edgR
  rw [if_pos e, units_none]
  split
  · rfl
  · rfl
theorem startsF_none {F : Fam} (h : emptyF F = true) (hF : FOK F) : startsB F = true ∧ startsR F = [] ∧ endsB F = true ∧ endsR F = [] := by
  cases F with
  | units k s =>
    have h1 : s = [] := List.length_eq_zero_iff.1 (of_decide_eq_true h)
    subst h1
    exact ⟨(edg_none (firV k) k).1, (edg_none (firV k) k).2, (edg_none (lasV k) k).1, (edg_none (lasV k) k).2⟩
  | span s e =>
    have h1 : s = [] := List.length_eq_zero_iff.1 (of_decide_eq_true h)
    subst h1
    have h2 : e = [] := no_mem (setB_sane hF.2.1) fun m hm => by
      obtain ⟨n, hn, _⟩ := hF.2.2.2 m hm
      exact memR_nil n hn
    subst h2
    exact ⟨rfl, rfl, rfl, rfl⟩
theorem fld2 (s : Bool) (u : Int) (a b : Option Addr) (n c m d : Nat) (w : World) : (Instr.field 24 (.agg #[.bool s, .int .i64 u, .slice a n c, .slice b m d]) 2).run Tryz.prog w = .ok (.slice a n c) w := by kernel_rfl
set_option maxHeartbeats 16000000 in
set_option maxRecDepth 100000 in
theorem refEmpty_any (f : LF) (va vb : Value) (w : World) (h : LeafOk w f va vb) :
    Calls Tryz.prog 20 #[leafV f va vb] w fun e w' => e = .returned (.bool (emptyF (famR f))) ∧ Kp w w' := by
  have C := Lib.hid (fun w1 (kk : Kp w w1) => refTidy_any f va vb w1 (h.kp kk))
  have ll := lfOf_len (famR f)
  generalize emptyF (famR f) = q at *
  generalize lfOf (famR f) = g at *
  obtain ⟨gs, gu, ga, gb⟩ := g
  obtain ⟨sp, u, a, b⟩ := f
  obtain ⟨ad, ca, rfl⟩ := h.a.slice
  obtain ⟨bd, cb, rfl⟩ := h.b.slice
  simp only [leafV] at C ll ⊢
  have K0 := Lib.hid (Kp.alloc w (.cells #[.bool sp, .int .i64 u, .slice ad a.length ca, .slice bd b.length cb] 24))
  have q0 : ((ga.length : Int) == 0) = q := by
    rw [ll]
    by_cases h : ga.length = 0
    · rw [decide_eq_true h, h]; rfl
    · rw [decide_eq_false h]; exact beq_eq_false_iff_ne.2 (by omega)
  have hfl := fld2
  clear h ll
  go_enter Tryz.func20, Tryz.ntmps20
  go_wp2_with fail
  refine (C.out _ K0.out).mono ?_
  rintro e w1 ⟨va', vb', rfl, okg, kk⟩
  obtain ⟨aa, c1, rfl⟩ := okg.a.slice
  obtain ⟨ab, c2, rfl⟩ := okg.b.slice
  have K1 := Lib.hid (K0.out.trans kk)
  clear kk okg
  go_wp2
  go_ret
  exact ⟨by first | rfl | rw [q0], K1.out⟩
set_option maxHeartbeats 16000000 in
set_option maxRecDepth 100000 in
theorem rsome_any (v : Value) (s : List R) (w : World) (hv : RunsAt w v s) (hn : s.length ≤ 1000) :
    Calls Tryz.prog 56 #[v] w fun e w' => ∃ v', e = .returned (.tuple #[v', .bool (decide (s.length ≤ 400))]) ∧ RunsAt w' v' (if s.length ≤ 400 then s else []) ∧ Kp w w' := by
  have RS := Lib.hid hv
  obtain ⟨ad, c, rfl⟩ := hv.slice
  clear hv
  have z := Lib.hid (Kp.refl w)
  by_cases h4 : s.length ≤ 400
  · have q0 : decide ((400 : Int) < (s.length : Int)) = false := decide_eq_false (by omega)
    have q1 : decide (400 < s.length) = false := decide_eq_false (by omega)
    rw [decide_eq_true h4, if_pos h4]
    clear h4
    go_enter Tryz.func56, Tryz.ntmps56
    go_wp2
    go_ret2
    exact ⟨_, rfl, RS.out, z.out⟩
  · have q0 : decide ((400 : Int) < (s.length : Int)) = true := decide_eq_true (by omega)
    have q1 : decide (400 < s.length) = true := decide_eq_true (by omega)
    rw [decide_eq_false h4, if_neg h4]
    clear h4
    go_enter Tryz.func56, Tryz.ntmps56
    go_wp2
    go_ret2
    exact ⟨_, rfl, .inl ⟨_, _, rfl, rfl⟩, z.out⟩
set_option maxHeartbeats 16000000 in
set_option maxRecDepth 100000 in
theorem refStarts_u (k : Int) (s : List R) (f g : LF) (va vb : Value) (w : World) (h : LeafOk w f va vb) (hg : lfOf (famR f) = g) (hs : g = ⟨false, k, s, []⟩) :
    Calls Tryz.prog 13 #[leafV f va vb] w fun e w' => ∃ v, e = .returned (.tuple #[v, .bool (edgB k s)]) ∧ RunsAt w' v (edgR (firV k) k s) ∧ Kp w w' := by
  have C := Lib.hid (fun w1 (kk : Kp w w1) => refTidy_any f va vb w1 (h.kp kk))
  rw [hg, hs] at C
  clear hg hs
  obtain ⟨sp, u, a, b⟩ := f
  obtain ⟨ad, ca, rfl⟩ := h.a.slice
  obtain ⟨bd, cb, rfl⟩ := h.b.slice
  simp only [leafV] at C ⊢
  have K0 := Lib.hid (Kp.alloc w (.cells #[.bool sp, .int .i64 u, .slice ad a.length ca, .slice bd b.length cb] 24))
  clear h
  have CS := Lib.hid (fun v w1 (r : RunsAt w1 v s) ii (hn : s.length ≤ 1000) => rstarts_any k v s w1 r ii (by omega))
  generalize edgB k s = q at *
  generalize edgR (firV k) k s = E at *
  go_enter Tryz.func13, Tryz.ntmps13
  go_wp2_with fail
  refine (C.out _ K0.out).mono ?_
  rintro e w1 ⟨ga, gb, rfl, okg, kk⟩
  obtain ⟨aa, c1', e1⟩ := okg.a.slice
  obtain ⟨ab, c2', e2⟩ := okg.b.slice
  simp only [List.length_nil] at e2
  subst e1 e2
  clear C
  obtain ⟨V, hV⟩ : ∃ x, x = w1.alloc (.cells #[.bool false, .int .i64 k, .slice aa s.length c1', .slice ab 0 c2'] 24) := ⟨_, rfl⟩
  have ka : Kp w1 V := by rw [hV]; exact Kp.alloc _ _
  have hgq : V.heap[w1.heap.size]? = some (.cells #[.bool false, .int .i64 k, .slice aa s.length c1', .slice ab 0 c2'] 24 (0, 0)) := by rw [hV]; exact heap_at _ _ _ rfl
  have g0 : V.cell? ⟨w1.heap.size, 0, none⟩ = some (.bool false) := by simp [World.cell?, hgq]
  have g1 : V.cell? ⟨w1.heap.size, 1, none⟩ = some (.int .i64 k) := by simp [World.cell?, hgq]
  have g2 : V.cell? ⟨w1.heap.size, 2, none⟩ = some (.slice aa s.length c1') := by simp [World.cell?, hgq]
  have g3 : V.cell? ⟨w1.heap.size, 3, none⟩ = some (.slice ab 0 c2') := by simp [World.cell?, hgq]
  have KV := Lib.hid (K0.out.trans (kk.trans ka))
  have HV := Lib.hid hV
  have OKV := Lib.hid (okg.kp ka)
  have ZV := Lib.hid (Kp.refl V)
  clear hV ka hgq kk okg
  go_wp2_with fail
  rw [← HV.out]
  refine (CS.out _ _ (OKV.out.a.kp (by first | with_reducible exact ZV.out | with_reducible exact ZV.out.trans (Kp.alloc _ _) | with_reducible exact (ZV.out.trans (Kp.alloc _ _)).trans (Kp.alloc _ _) | with_reducible exact ((ZV.out.trans (Kp.alloc _ _)).trans (Kp.alloc _ _)).trans (Kp.alloc _ _) | with_reducible exact ZV.out.trans (Kp.drew _) | with_reducible exact ZV.out.trans (Kp.drewN _ _))) OKV.out.ia OKV.out.na).mono ?_
  rintro e w2 ⟨v2, rfl, r2, kk⟩
  have R2 := Lib.hid r2
  clear r2
  have KW := Lib.hid ((show Kp V _ from (by first | with_reducible exact ZV.out | with_reducible exact ZV.out.trans (Kp.alloc _ _) | with_reducible exact (ZV.out.trans (Kp.alloc _ _)).trans (Kp.alloc _ _) | with_reducible exact ((ZV.out.trans (Kp.alloc _ _)).trans (Kp.alloc _ _)).trans (Kp.alloc _ _) | with_reducible exact ZV.out.trans (Kp.drew _) | with_reducible exact ZV.out.trans (Kp.drewN _ _))).trans kk)
  clear kk
  go_wp2
  exact bodyPost_ret (results_tmp2 rfl _ _ _) rfl ⟨_, rfl, R2.out, KV.out.trans KW.out⟩
set_option maxHeartbeats 16000000 in
set_option maxRecDepth 100000 in
theorem refStarts_s (s t : List R) (f g : LF) (va vb : Value) (w : World) (h : LeafOk w f va vb) (hg : lfOf (famR f) = g) (hs : g = ⟨true, 0, s, t⟩) :
    Calls Tryz.prog 13 #[leafV f va vb] w fun e w' => ∃ v, e = .returned (.tuple #[v, .bool (decide (s.length ≤ 400))]) ∧ RunsAt w' v (if s.length ≤ 400 then s else []) ∧ Kp w w' := by
  have C := Lib.hid (fun w1 (kk : Kp w w1) => refTidy_any f va vb w1 (h.kp kk))
  rw [hg, hs] at C
  clear hg hs
  obtain ⟨sp, u, a, b⟩ := f
  obtain ⟨ad, ca, rfl⟩ := h.a.slice
  obtain ⟨bd, cb, rfl⟩ := h.b.slice
  simp only [leafV] at C ⊢
  have K0 := Lib.hid (Kp.alloc w (.cells #[.bool sp, .int .i64 u, .slice ad a.length ca, .slice bd b.length cb] 24))
  clear h
  have CS := Lib.hid (fun v w1 (r : RunsAt w1 v s) (hn : s.length ≤ 1000) => rsome_any v s w1 r hn)
  generalize decide (s.length ≤ 400) = q at *
  generalize (if s.length ≤ 400 then s else []) = E at *
  go_enter Tryz.func13, Tryz.ntmps13
  go_wp2_with fail
  refine (C.out _ K0.out).mono ?_
  rintro e w1 ⟨ga, gb, rfl, okg, kk⟩
  obtain ⟨aa, c1', e1⟩ := okg.a.slice
  obtain ⟨ab, c2', e2⟩ := okg.b.slice
  subst e1 e2
  clear C
  obtain ⟨V, hV⟩ : ∃ x, x = w1.alloc (.cells #[.bool true, .int .i64 0, .slice aa s.length c1', .slice ab t.length c2'] 24) := ⟨_, rfl⟩
  have ka : Kp w1 V := by rw [hV]; exact Kp.alloc _ _
  have hgq : V.heap[w1.heap.size]? = some (.cells #[.bool true, .int .i64 0, .slice aa s.length c1', .slice ab t.length c2'] 24 (0, 0)) := by rw [hV]; exact heap_at _ _ _ rfl
  have g0 : V.cell? ⟨w1.heap.size, 0, none⟩ = some (.bool true) := by simp [World.cell?, hgq]
  have g1 : V.cell? ⟨w1.heap.size, 1, none⟩ = some (.int .i64 0) := by simp [World.cell?, hgq]
  have g2 : V.cell? ⟨w1.heap.size, 2, none⟩ = some (.slice aa s.length c1') := by simp [World.cell?, hgq]
  have g3 : V.cell? ⟨w1.heap.size, 3, none⟩ = some (.slice ab t.length c2') := by simp [World.cell?, hgq]
  have KV := Lib.hid (K0.out.trans (kk.trans ka))
  have HV := Lib.hid hV
  have OKV := Lib.hid (okg.kp ka)
  have ZV := Lib.hid (Kp.refl V)
  clear hV ka hgq kk okg
  go_wp2_with fail
  rw [← HV.out]
  refine (CS.out _ _ (OKV.out.a.kp (by first | with_reducible exact ZV.out | with_reducible exact ZV.out.trans (Kp.alloc _ _) | with_reducible exact (ZV.out.trans (Kp.alloc _ _)).trans (Kp.alloc _ _) | with_reducible exact ((ZV.out.trans (Kp.alloc _ _)).trans (Kp.alloc _ _)).trans (Kp.alloc _ _) | with_reducible exact ZV.out.trans (Kp.drew _) | with_reducible exact ZV.out.trans (Kp.drewN _ _))) OKV.out.na).mono ?_
  rintro e w2 ⟨v2, rfl, r2, kk⟩
  have R2 := Lib.hid r2
  clear r2
  have KW := Lib.hid ((show Kp V _ from (by first | with_reducible exact ZV.out | with_reducible exact ZV.out.trans (Kp.alloc _ _) | with_reducible exact (ZV.out.trans (Kp.alloc _ _)).trans (Kp.alloc _ _) | with_reducible exact ((ZV.out.trans (Kp.alloc _ _)).trans (Kp.alloc _ _)).trans (Kp.alloc _ _) | with_reducible exact ZV.out.trans (Kp.drew _) | with_reducible exact ZV.out.trans (Kp.drewN _ _))).trans kk)
  clear kk
  go_wp2
  exact bodyPost_ret (results_tmp2 rfl _ _ _) rfl ⟨_, rfl, R2.out, KV.out.trans KW.out⟩
theorem refLStarts_any (f : LF) (va vb : Value) (w : World) (h : LeafOk w f va vb) :
    Calls Tryz.prog 13 #[leafV f va vb] w fun e w' => ∃ v, e = .returned (.tuple #[v, .bool (startsB (famR f))]) ∧ RunsAt w' v (startsR (famR f)) ∧ Kp w w' := by
  have hF := famR_ok f
  rcases Bool.eq_false_or_eq_true (emptyF (famR f)) with h0 | h0
  · have e := startsF_none h0 hF
    rw [e.1, e.2.1]
    have := refStarts_u 0 [] f _ va vb w h rfl (lfOf_none h0)
    rw [(edg_none (firV 0) 0).1, (edg_none (firV 0) 0).2] at this
    exact this
  · cases hf : famR f with
    | units k s =>
      rw [hf] at h0
      exact refStarts_u k s f _ va vb w h rfl (by rw [hf]; exact lfOf_u1 (of_decide_eq_false h0))
    | span s t =>
      rw [hf] at h0
      exact refStarts_s s t f _ va vb w h rfl (by rw [hf]; exact lfOf_s1 (of_decide_eq_false h0))
set_option maxHeartbeats 16000000 in
set_option maxRecDepth 100000 in
theorem refEnds_u (k : Int) (s : List R) (f g : LF) (va vb : Value) (w : World) (h : LeafOk w f va vb) (hg : lfOf (famR f) = g) (hs : g = ⟨false, k, s, []⟩) :
    Calls Tryz.prog 15 #[leafV f va vb] w fun e w' => ∃ v, e = .returned (.tuple #[v, .bool (edgB k s)]) ∧ RunsAt w' v (edgR (lasV k) k s) ∧ Kp w w' := by
  have C := Lib.hid (fun w1 (kk : Kp w w1) => refTidy_any f va vb w1 (h.kp kk))
  rw [hg, hs] at C
  clear hg hs
  obtain ⟨sp, u, a, b⟩ := f
  obtain ⟨ad, ca, rfl⟩ := h.a.slice
  obtain ⟨bd, cb, rfl⟩ := h.b.slice
  simp only [leafV] at C ⊢
  have K0 := Lib.hid (Kp.alloc w (.cells #[.bool sp, .int .i64 u, .slice ad a.length ca, .slice bd b.length cb] 24))
  clear h
  have CS := Lib.hid (fun v w1 (r : RunsAt w1 v s) ii (hn : s.length ≤ 1000) => rends_any k v s w1 r ii (by omega))
  generalize edgB k s = q at *
  generalize edgR (lasV k) k s = E at *
  go_enter Tryz.func15, Tryz.ntmps15
  go_wp2_with fail
  refine (C.out _ K0.out).mono ?_
  rintro e w1 ⟨ga, gb, rfl, okg, kk⟩
  obtain ⟨aa, c1', e1⟩ := okg.a.slice
  obtain ⟨ab, c2', e2⟩ := okg.b.slice
  simp only [List.length_nil] at e2
  subst e1 e2
  clear C
  obtain ⟨V, hV⟩ : ∃ x, x = w1.alloc (.cells #[.bool false, .int .i64 k, .slice aa s.length c1', .slice ab 0 c2'] 24) := ⟨_, rfl⟩
  have ka : Kp w1 V := by rw [hV]; exact Kp.alloc _ _
  have hgq : V.heap[w1.heap.size]? = some (.cells #[.bool false, .int .i64 k, .slice aa s.length c1', .slice ab 0 c2'] 24 (0, 0)) := by rw [hV]; exact heap_at _ _ _ rfl
  have g0 : V.cell? ⟨w1.heap.size, 0, none⟩ = some (.bool false) := by simp [World.cell?, hgq]
  have g1 : V.cell? ⟨w1.heap.size, 1, none⟩ = some (.int .i64 k) := by simp [World.cell?, hgq]
  have g2 : V.cell? ⟨w1.heap.size, 2, none⟩ = some (.slice aa s.length c1') := by simp [World.cell?, hgq]
  have g3 : V.cell? ⟨w1.heap.size, 3, none⟩ = some (.slice ab 0 c2') := by simp [World.cell?, hgq]
  have KV := Lib.hid (K0.out.trans (kk.trans ka))
  have HV := Lib.hid hV
  have OKV := Lib.hid (okg.kp ka)
  have ZV := Lib.hid (Kp.refl V)
  clear hV ka hgq kk okg
  go_wp2_with fail
  rw [← HV.out]
  refine (CS.out _ _ (OKV.out.a.kp (by first | with_reducible exact ZV.out | with_reducible exact ZV.out.trans (Kp.alloc _ _) | with_reducible exact (ZV.out.trans (Kp.alloc _ _)).trans (Kp.alloc _ _) | with_reducible exact ((ZV.out.trans (Kp.alloc _ _)).trans (Kp.alloc _ _)).trans (Kp.alloc _ _) | with_reducible exact ZV.out.trans (Kp.drew _) | with_reducible exact ZV.out.trans (Kp.drewN _ _))) OKV.out.ia OKV.out.na).mono ?_
  rintro e w2 ⟨v2, rfl, r2, kk⟩
  have R2 := Lib.hid r2
  clear r2
  have KW := Lib.hid ((show Kp V _ from (by first | with_reducible exact ZV.out | with_reducible exact ZV.out.trans (Kp.alloc _ _) | with_reducible exact (ZV.out.trans (Kp.alloc _ _)).trans (Kp.alloc _ _) | with_reducible exact ((ZV.out.trans (Kp.alloc _ _)).trans (Kp.alloc _ _)).trans (Kp.alloc _ _) | with_reducible exact ZV.out.trans (Kp.drew _) | with_reducible exact ZV.out.trans (Kp.drewN _ _))).trans kk)
  clear kk
  go_wp2
  exact bodyPost_ret (results_tmp2 rfl _ _ _) rfl ⟨_, rfl, R2.out, KV.out.trans KW.out⟩
set_option maxHeartbeats 16000000 in
set_option maxRecDepth 100000 in
theorem refEnds_s (s t : List R) (f g : LF) (va vb : Value) (w : World) (h : LeafOk w f va vb) (hg : lfOf (famR f) = g) (hs : g = ⟨true, 0, s, t⟩) :
    Calls Tryz.prog 15 #[leafV f va vb] w fun e w' => ∃ v, e = .returned (.tuple #[v, .bool (decide (t.length ≤ 400))]) ∧ RunsAt w' v (if t.length ≤ 400 then t else []) ∧ Kp w w' := by
  have C := Lib.hid (fun w1 (kk : Kp w w1) => refTidy_any f va vb w1 (h.kp kk))
  rw [hg, hs] at C
  clear hg hs
  obtain ⟨sp, u, a, b⟩ := f
  obtain ⟨ad, ca, rfl⟩ := h.a.slice
  obtain ⟨bd, cb, rfl⟩ := h.b.slice
  simp only [leafV] at C ⊢
  have K0 := Lib.hid (Kp.alloc w (.cells #[.bool sp, .int .i64 u, .slice ad a.length ca, .slice bd b.length cb] 24))
  clear h
  have CS := Lib.hid (fun v w1 (r : RunsAt w1 v t) (hn : t.length ≤ 1000) => rsome_any v t w1 r hn)
  generalize decide (t.length ≤ 400) = q at *
  generalize (if t.length ≤ 400 then t else []) = E at *
  go_enter Tryz.func15, Tryz.ntmps15
  go_wp2_with fail
  refine (C.out _ K0.out).mono ?_
  rintro e w1 ⟨ga, gb, rfl, okg, kk⟩
  obtain ⟨aa, c1', e1⟩ := okg.a.slice
  obtain ⟨ab, c2', e2⟩ := okg.b.slice
  subst e1 e2
  clear C
  obtain ⟨V, hV⟩ : ∃ x, x = w1.alloc (.cells #[.bool true, .int .i64 0, .slice aa s.length c1', .slice ab t.length c2'] 24) := ⟨_, rfl⟩
  have ka : Kp w1 V := by rw [hV]; exact Kp.alloc _ _
  have hgq : V.heap[w1.heap.size]? = some (.cells #[.bool true, .int .i64 0, .slice aa s.length c1', .slice ab t.length c2'] 24 (0, 0)) := by rw [hV]; exact heap_at _ _ _ rfl
  have g0 : V.cell? ⟨w1.heap.size, 0, none⟩ = some (.bool true) := by simp [World.cell?, hgq]
  have g1 : V.cell? ⟨w1.heap.size, 1, none⟩ = some (.int .i64 0) := by simp [World.cell?, hgq]
  have g2 : V.cell? ⟨w1.heap.size, 2, none⟩ = some (.slice aa s.length c1') := by simp [World.cell?, hgq]
  have g3 : V.cell? ⟨w1.heap.size, 3, none⟩ = some (.slice ab t.length c2') := by simp [World.cell?, hgq]
  have KV := Lib.hid (K0.out.trans (kk.trans ka))
  have HV := Lib.hid hV
  have OKV := Lib.hid (okg.kp ka)
  have ZV := Lib.hid (Kp.refl V)
  clear hV ka hgq kk okg
  go_wp2_with fail
  rw [← HV.out]
  refine (CS.out _ _ (OKV.out.b.kp (by first | with_reducible exact ZV.out | with_reducible exact ZV.out.trans (Kp.alloc _ _) | with_reducible exact (ZV.out.trans (Kp.alloc _ _)).trans (Kp.alloc _ _) | with_reducible exact ((ZV.out.trans (Kp.alloc _ _)).trans (Kp.alloc _ _)).trans (Kp.alloc _ _) | with_reducible exact ZV.out.trans (Kp.drew _) | with_reducible exact ZV.out.trans (Kp.drewN _ _))) OKV.out.nb).mono ?_
  rintro e w2 ⟨v2, rfl, r2, kk⟩
  have R2 := Lib.hid r2
  clear r2
  have KW := Lib.hid ((show Kp V _ from (by first | with_reducible exact ZV.out | with_reducible exact ZV.out.trans (Kp.alloc _ _) | with_reducible exact (ZV.out.trans (Kp.alloc _ _)).trans (Kp.alloc _ _) | with_reducible exact ((ZV.out.trans (Kp.alloc _ _)).trans (Kp.alloc _ _)).trans (Kp.alloc _ _) | with_reducible exact ZV.out.trans (Kp.drew _) | with_reducible exact ZV.out.trans (Kp.drewN _ _))).trans kk)
  clear kk
  go_wp2
  exact bodyPost_ret (results_tmp2 rfl _ _ _) rfl ⟨_, rfl, R2.out, KV.out.trans KW.out⟩
theorem refLEnds_any (f : LF) (va vb : Value) (w : World) (h : LeafOk w f va vb) :
    Calls Tryz.prog 15 #[leafV f va vb] w fun e w' => ∃ v, e = .returned (.tuple #[v, .bool (endsB (famR f))]) ∧ RunsAt w' v (endsR (famR f)) ∧ Kp w w' := by
  have hF := famR_ok f
  rcases Bool.eq_false_or_eq_true (emptyF (famR f)) with h0 | h0
  · have e := startsF_none h0 hF
    rw [e.2.2.1, e.2.2.2]
    have := refEnds_u 0 [] f _ va vb w h rfl (lfOf_none h0)
    rw [(edg_none (lasV 0) 0).1, (edg_none (lasV 0) 0).2] at this
    exact this
  · cases hf : famR f with
    | units k s =>
      rw [hf] at h0
      exact refEnds_u k s f _ va vb w h rfl (by rw [hf]; exact lfOf_u1 (of_decide_eq_false h0))
    | span s t =>
      rw [hf] at h0
      exact refEnds_s s t f _ va vb w h rfl (by rw [hf]; exact lfOf_s1 (of_decide_eq_false h0))
end Go.Proofs.YtfphmhdgnokopaaGreatDoor

namespace Go.Proofs.YtfphmhdgnokopaaGreatDoor
open Go.RowKit
set_option linter.unusedVariables false
set_option linter.unusedSimpArgs false
theorem hasF_span_as {f : LF} (h : leafB f = true) (hs : f.sp = true) (S T : Int) : hasF (famR f) S T = (decide (S ≤ T) && (hasB f.a S && hasB f.b T)) := by
  obtain ⟨_, ha, hb⟩ := leafB_span h hs
  rw [Bool.eq_iff_iff]
  simp only [Bool.and_eq_true, decide_eq_true_eq, has_mem (setB_sane ha), has_mem (setB_sane hb)]
  by_cases h0 : f.a.length = 0 ∨ f.b.length = 0
  · rw [famR_none h hs h0, hasF_span (s := []) (e := []) trivial trivial]
    constructor
    · rintro ⟨_, m, _⟩; exact absurd m (memR_nil S)
    · rintro ⟨_, m, m'⟩
      have := mem_pos m
      have := mem_pos m'
      omega
  · rw [famR_span h hs h0, hasF_span (interR_sane _ _) (interR_sane _ _), (span_mem h hs h0 S).1, (span_mem h hs h0 T).2]
    constructor
    · rintro ⟨a, b, c⟩; exact ⟨a, b.1, c.1⟩
    · rintro ⟨a, b, c⟩
      have := great_max (setB_sane hb) c
      have := least_min (setB_sane ha) b
      exact ⟨a, ⟨b, by omega⟩, c, by omega⟩
theorem beq_turn (x y : Int) : (x == y) = (y == x) := by
  by_cases h : x = y
  · subst h; rfl
  · rw [beq_eq_false_iff_ne.2 h, beq_eq_false_iff_ne.2 (Ne.symm h)]
set_option maxHeartbeats 16000000 in
set_option maxRecDepth 100000 in
theorem refHas_u (k : Int) (s : List R) (f : LF) (va vb : Value) (S T : Int) (w : World) (h : LeafOk w f va vb) (hg : asL f = ⟨false, k, s, []⟩) (ss : sane s) (b1 : -9223372036854775808 ≤ S) (b2 : S ≤ 9223372036854775807) :
    Calls Tryz.prog 22 #[leafV f va vb, .agg #[.int .i64 S, .int .i64 T]] w fun e w' => e = .returned (.bool (hasF (.units k s) S T)) ∧ Kp w w' := by
  have E : hasF (.units k s) S T = (okO k S && (hasB s (ofV k S) && ((S == firV k (ofV k S)) && (T == lasV k (ofV k S))))) := by
    rw [beq_turn S, beq_turn T]; rfl
  rw [E]
  clear E
  have C := Lib.hid (fun w1 (kk : Kp w w1) => refAs_any f va vb w1 (h.kp kk))
  rw [hg] at C
  clear hg
  have CO := Lib.hid (fun w1 => rof_any k S w1 b1 b2)
  have CH := Lib.hid (fun ad c w1 (r : RunsAt w1 (.slice ad s.length c) s) (ii : I64R s) (hn : s.length ≤ 1000) => rhas_of (.slice ad s.length c) s (ofV k S) w1 (by have := asR_any _ s w1 r ii (by omega); rwa [nf_of_sane ss] at this) ss (by omega))
  have CF := Lib.hid (fun w1 => rfirst_any k (ofV k S) w1)
  have CL := Lib.hid (fun w1 => rlast_any k (ofV k S) w1)
  generalize okO k S = q at *
  generalize ofV k S = i at *
  generalize hasB s i = z at *
  generalize firV k i = x at *
  generalize lasV k i = y at *
  generalize okU k i = ou at *
  obtain ⟨t1, ht1⟩ : ∃ q, (S == x) = q := ⟨_, rfl⟩
  obtain ⟨t2, ht2⟩ : ∃ q, (T == y) = q := ⟨_, rfl⟩
  rw [ht1, ht2]
  clear ss
  obtain ⟨sp, u, a, b⟩ := f
  obtain ⟨ad, ca, rfl⟩ := h.a.slice
  obtain ⟨bd, cb, rfl⟩ := h.b.slice
  simp only [leafV] at C ⊢
  obtain ⟨W0, hW⟩ : ∃ x, x = (w.alloc (.cells #[.bool sp, .int .i64 u, .slice ad a.length ca, .slice bd b.length cb] 24)).alloc (.cells #[.int .i64 S, .int .i64 T] 26) := ⟨_, rfl⟩
  have k0 : Kp w W0 := by rw [hW]; exact (Kp.alloc _ _).trans (Kp.alloc _ _)
  have p0 : W0.cell? ⟨w.heap.size + 1, 0, none⟩ = some (.int .i64 S) := by rw [hW]; simp
  have p1 : W0.cell? ⟨w.heap.size + 1, 1, none⟩ = some (.int .i64 T) := by rw [hW]; simp
  have K0 := Lib.hid k0
  have HW := Lib.hid hW
  have P0 := Lib.hid p0
  have P1 := Lib.hid p1
  clear h hW k0 p0 p1
  go_enter Tryz.func22, Tryz.ntmps22
  go_wp2_with fail
  rw [← HW.out]
  refine (C.out _ K0.out).mono ?_
  rintro e w1 ⟨ga, gb, rfl, okg, kk⟩
  clear C
  obtain ⟨aa, c1', e1⟩ := okg.a.slice
  obtain ⟨ab, c2', e2⟩ := okg.b.slice
  simp only [List.length_nil] at e1 e2
  subst e1 e2
  have na := okg.na
  simp only at na
  obtain ⟨V, hV⟩ : ∃ x, x = w1.alloc (.cells #[.bool false, .int .i64 k, .slice aa s.length c1', .slice ab 0 c2'] 24) := ⟨_, rfl⟩
  have ka : Kp w1 V := by rw [hV]; exact Kp.alloc _ _
  have hgq : V.heap[w1.heap.size]? = some (.cells #[.bool false, .int .i64 k, .slice aa s.length c1', .slice ab 0 c2'] 24 (0, 0)) := by rw [hV]; exact heap_at _ _ _ rfl
  have g0 : V.cell? ⟨w1.heap.size, 0, none⟩ = some (.bool false) := by simp [World.cell?, hgq]
  have g1 : V.cell? ⟨w1.heap.size, 1, none⟩ = some (.int .i64 k) := by simp [World.cell?, hgq]
  have g2 : V.cell? ⟨w1.heap.size, 2, none⟩ = some (.slice aa s.length c1') := by simp [World.cell?, hgq]
  have g3 : V.cell? ⟨w1.heap.size, 3, none⟩ = some (.slice ab 0 c2') := by simp [World.cell?, hgq]
  have g4 := cell_up (kk.trans ka) P0.out
  have g5 := cell_up (kk.trans ka) P1.out
  have HB := Lib.hid (fun w' (kq : Kp V w') => show w'.cell? ⟨w1.heap.size, 0, none⟩ = some (.bool false) ∧ w'.cell? ⟨w1.heap.size, 1, none⟩ = some (.int .i64 k) ∧ w'.cell? ⟨w1.heap.size, 2, none⟩ = some (.slice aa s.length c1') ∧ w'.cell? ⟨w1.heap.size, 3, none⟩ = some (.slice ab 0 c2') ∧ w'.cell? ⟨w.heap.size + 1, 0, none⟩ = some (.int .i64 S) ∧ w'.cell? ⟨w.heap.size + 1, 1, none⟩ = some (.int .i64 T) from ⟨cell_up kq g0, cell_up kq g1, cell_up kq g2, cell_up kq g3, cell_up kq g4, cell_up kq g5⟩)
  have KV := Lib.hid (K0.out.trans (kk.trans ka))
  have HV := Lib.hid hV
  have OKV := Lib.hid (okg.kp ka)
  have ZV := Lib.hid (Kp.refl V)
  have f4 := cell_up kk P0.out
  have f5 := cell_up kk P1.out
  have zp := World.block_lt_of_cell? w1 _ f4
  have zp' : ¬ w.heap.size + 1 = w1.heap.size := by simp at zp; omega
  clear hV ka hgq kk okg g0 g1 g2 g3 g4 g5
  go_wp2_with fail
  rw [← HV.out]
  clear f4 f5 zp
  obtain ⟨e0, e1, e2, e3, e4, e5⟩ := HB.out V (Kp.refl _)
  cases q with
  | false =>
    refine (CO.out _).mono ?_
    rintro e w' ⟨rfl, rfl⟩
    go_wp2
    go_ret
    exact ⟨rfl, KV.out⟩
  | true =>
    refine (CO.out _).mono ?_
    rintro e w' ⟨rfl, rfl⟩
    go_wp2_with fail
    refine (CH.out _ _ _ (OKV.out.a.kp (by first | with_reducible exact ZV.out | with_reducible exact ZV.out.trans (Kp.alloc _ _) | with_reducible exact (ZV.out.trans (Kp.alloc _ _)).trans (Kp.alloc _ _) | with_reducible exact ((ZV.out.trans (Kp.alloc _ _)).trans (Kp.alloc _ _)).trans (Kp.alloc _ _) | with_reducible exact ZV.out.trans (Kp.drew _) | with_reducible exact ZV.out.trans (Kp.drewN _ _))) OKV.out.ia na).mono ?_
    rintro e w2 ⟨rfl, kk⟩
    have kz := (show Kp V _ from (by first | with_reducible exact ZV.out | with_reducible exact ZV.out.trans (Kp.alloc _ _) | with_reducible exact (ZV.out.trans (Kp.alloc _ _)).trans (Kp.alloc _ _) | with_reducible exact ((ZV.out.trans (Kp.alloc _ _)).trans (Kp.alloc _ _)).trans (Kp.alloc _ _) | with_reducible exact ZV.out.trans (Kp.drew _) | with_reducible exact ZV.out.trans (Kp.drewN _ _))).trans kk
    have K2 := Lib.hid (KV.out.trans kz)
    clear e0 e1 e2 e3 e4 e5
    obtain ⟨e0, e1, e2, e3, e4, e5⟩ := HB.out w2 kz
    clear kz kk
    cases z with
    | false =>
      go_wp2
      go_ret
      exact ⟨rfl, K2.out⟩
    | true =>
      go_wp2_with fail
      refine (CF.out _).mono ?_
      rintro e w' ⟨rfl, rfl⟩
      go_wp2_with fail
      refine (CL.out _).mono ?_
      rintro e w' ⟨rfl, rfl⟩
      cases t1 <;> cases t2
      all_goals
        go_wp2
        go_ret
        exact ⟨rfl, K2.out⟩
set_option maxHeartbeats 16000000 in
set_option maxRecDepth 100000 in
theorem refHas_s (s t : List R) (f : LF) (va vb : Value) (S T : Int) (w : World) (h : LeafOk w f va vb) (hg : asL f = ⟨true, 0, s, t⟩) (ss : sane s) (st : sane t) :
    Calls Tryz.prog 22 #[leafV f va vb, .agg #[.int .i64 S, .int .i64 T]] w fun e w' => e = .returned (.bool (decide (S ≤ T) && (hasB s S && hasB t T))) ∧ Kp w w' := by
  have C := Lib.hid (fun w1 (kk : Kp w w1) => refAs_any f va vb w1 (h.kp kk))
  rw [hg] at C
  clear hg
  have CS := Lib.hid (fun ad c w1 (r : RunsAt w1 (.slice ad s.length c) s) (ii : I64R s) (hn : s.length ≤ 1000) => rhas_of (.slice ad s.length c) s S w1 (by have := asR_any _ s w1 r ii (by omega); rwa [nf_of_sane ss] at this) ss (by omega))
  have CT := Lib.hid (fun ad c w1 (r : RunsAt w1 (.slice ad t.length c) t) (ii : I64R t) (hn : t.length ≤ 1000) => rhas_of (.slice ad t.length c) t T w1 (by have := asR_any _ t w1 r ii (by omega); rwa [nf_of_sane st] at this) st (by omega))
  generalize hasB s S = z1 at *
  generalize hasB t T = z2 at *
  obtain ⟨q, hq⟩ : ∃ q, decide (S ≤ T) = q := ⟨_, rfl⟩
  rw [hq]
  clear ss st
  obtain ⟨sp, u, a, b⟩ := f
  obtain ⟨ad, ca, rfl⟩ := h.a.slice
  obtain ⟨bd, cb, rfl⟩ := h.b.slice
  simp only [leafV] at C ⊢
  obtain ⟨W0, hW⟩ : ∃ x, x = (w.alloc (.cells #[.bool sp, .int .i64 u, .slice ad a.length ca, .slice bd b.length cb] 24)).alloc (.cells #[.int .i64 S, .int .i64 T] 26) := ⟨_, rfl⟩
  have k0 : Kp w W0 := by rw [hW]; exact (Kp.alloc _ _).trans (Kp.alloc _ _)
  have p0 : W0.cell? ⟨w.heap.size + 1, 0, none⟩ = some (.int .i64 S) := by rw [hW]; simp
  have p1 : W0.cell? ⟨w.heap.size + 1, 1, none⟩ = some (.int .i64 T) := by rw [hW]; simp
  have K0 := Lib.hid k0
  have HW := Lib.hid hW
  have P0 := Lib.hid p0
  have P1 := Lib.hid p1
  clear h hW k0 p0 p1
  go_enter Tryz.func22, Tryz.ntmps22
  go_wp2_with fail
  rw [← HW.out]
  refine (C.out _ K0.out).mono ?_
  rintro e w1 ⟨ga, gb, rfl, okg, kk⟩
  clear C
  obtain ⟨aa, c1', e1⟩ := okg.a.slice
  obtain ⟨ab, c2', e2⟩ := okg.b.slice
  simp only at e1 e2
  subst e1 e2
  have na := okg.na
  have nb := okg.nb
  simp only at na nb
  obtain ⟨V, hV⟩ : ∃ x, x = w1.alloc (.cells #[.bool true, .int .i64 0, .slice aa s.length c1', .slice ab t.length c2'] 24) := ⟨_, rfl⟩
  have ka : Kp w1 V := by rw [hV]; exact Kp.alloc _ _
  have hgq : V.heap[w1.heap.size]? = some (.cells #[.bool true, .int .i64 0, .slice aa s.length c1', .slice ab t.length c2'] 24 (0, 0)) := by rw [hV]; exact heap_at _ _ _ rfl
  have g0 : V.cell? ⟨w1.heap.size, 0, none⟩ = some (.bool true) := by simp [World.cell?, hgq]
  have g1 : V.cell? ⟨w1.heap.size, 1, none⟩ = some (.int .i64 0) := by simp [World.cell?, hgq]
  have g2 : V.cell? ⟨w1.heap.size, 2, none⟩ = some (.slice aa s.length c1') := by simp [World.cell?, hgq]
  have g3 : V.cell? ⟨w1.heap.size, 3, none⟩ = some (.slice ab t.length c2') := by simp [World.cell?, hgq]
  have g4 := cell_up (kk.trans ka) P0.out
  have g5 := cell_up (kk.trans ka) P1.out
  have HB := Lib.hid (fun w' (kq : Kp V w') => show w'.cell? ⟨w1.heap.size, 0, none⟩ = some (.bool true) ∧ w'.cell? ⟨w1.heap.size, 1, none⟩ = some (.int .i64 0) ∧ w'.cell? ⟨w1.heap.size, 2, none⟩ = some (.slice aa s.length c1') ∧ w'.cell? ⟨w1.heap.size, 3, none⟩ = some (.slice ab t.length c2') ∧ w'.cell? ⟨w.heap.size + 1, 0, none⟩ = some (.int .i64 S) ∧ w'.cell? ⟨w.heap.size + 1, 1, none⟩ = some (.int .i64 T) from ⟨cell_up kq g0, cell_up kq g1, cell_up kq g2, cell_up kq g3, cell_up kq g4, cell_up kq g5⟩)
  have KV := Lib.hid (K0.out.trans (kk.trans ka))
  have HV := Lib.hid hV
  have OKV := Lib.hid (okg.kp ka)
  have ZV := Lib.hid (Kp.refl V)
  have f4 := cell_up kk P0.out
  have f5 := cell_up kk P1.out
  have zp := World.block_lt_of_cell? w1 _ f4
  have zp' : ¬ w.heap.size + 1 = w1.heap.size := by simp at zp; omega
  have KW := Lib.hid kk
  clear hV ka hgq kk okg g0 g1 g2 g3 g4 g5
  cases q with
  | false =>
    go_wp2
    go_ret
    exact ⟨rfl, K0.out.trans (KW.out.trans (Kp.alloc _ _))⟩
  | true =>
  go_wp2_with fail
  rw [← HV.out]
  clear f4 f5 zp
  obtain ⟨e0, e1, e2, e3, e4, e5⟩ := HB.out V (Kp.refl _)
  refine (CS.out _ _ _ (OKV.out.a.kp (by first | with_reducible exact ZV.out | with_reducible exact ZV.out.trans (Kp.alloc _ _) | with_reducible exact (ZV.out.trans (Kp.alloc _ _)).trans (Kp.alloc _ _) | with_reducible exact ((ZV.out.trans (Kp.alloc _ _)).trans (Kp.alloc _ _)).trans (Kp.alloc _ _) | with_reducible exact ZV.out.trans (Kp.drew _) | with_reducible exact ZV.out.trans (Kp.drewN _ _))) OKV.out.ia na).mono ?_
  rintro e w2 ⟨rfl, kk⟩
  have kz := (show Kp V _ from (by first | with_reducible exact ZV.out | with_reducible exact ZV.out.trans (Kp.alloc _ _) | with_reducible exact (ZV.out.trans (Kp.alloc _ _)).trans (Kp.alloc _ _) | with_reducible exact ((ZV.out.trans (Kp.alloc _ _)).trans (Kp.alloc _ _)).trans (Kp.alloc _ _) | with_reducible exact ZV.out.trans (Kp.drew _) | with_reducible exact ZV.out.trans (Kp.drewN _ _))).trans kk
  have K2 := Lib.hid kz
  clear e0 e1 e2 e3 e4 e5
  obtain ⟨e0, e1, e2, e3, e4, e5⟩ := HB.out w2 kz
  clear kz kk
  cases z1 with
  | false =>
    go_wp2
    go_ret
    exact ⟨rfl, KV.out.trans K2.out⟩
  | true =>
    go_wp2_with fail
    refine (CT.out _ _ _ (OKV.out.b.kp (by first | with_reducible exact K2.out | with_reducible exact K2.out.trans (Kp.alloc _ _) | with_reducible exact (K2.out.trans (Kp.alloc _ _)).trans (Kp.alloc _ _) | with_reducible exact ((K2.out.trans (Kp.alloc _ _)).trans (Kp.alloc _ _)).trans (Kp.alloc _ _) | with_reducible exact K2.out.trans (Kp.drew _) | with_reducible exact K2.out.trans (Kp.drewN _ _))) OKV.out.ib nb).mono ?_
    rintro e w3 ⟨rfl, kk⟩
    have K3 := Lib.hid (KV.out.trans ((show Kp V _ from (by first | with_reducible exact K2.out | with_reducible exact K2.out.trans (Kp.alloc _ _) | with_reducible exact (K2.out.trans (Kp.alloc _ _)).trans (Kp.alloc _ _) | with_reducible exact ((K2.out.trans (Kp.alloc _ _)).trans (Kp.alloc _ _)).trans (Kp.alloc _ _) | with_reducible exact K2.out.trans (Kp.drew _) | with_reducible exact K2.out.trans (Kp.drewN _ _))).trans kk))
    go_wp2
    go_ret
    exact ⟨rfl, K3.out⟩
theorem refHas_any (f : LF) (va vb : Value) (S T : Int) (w : World) (h : LeafOk w f va vb) (b1 : -9223372036854775808 ≤ S) (b2 : S ≤ 9223372036854775807) :
    Calls Tryz.prog 22 #[leafV f va vb, .agg #[.int .i64 S, .int .i64 T]] w fun e w' => e = .returned (.bool (hasF (famR f) S T)) ∧ Kp w w' := by
  rcases Bool.eq_false_or_eq_true (leafB f) with hl | hl
  · have ha : asL f = f := if_pos hl
    rcases Bool.eq_false_or_eq_true f.sp with hs | hs
    · obtain ⟨hu, h1, h2⟩ := leafB_span hl hs
      rw [hasF_span_as hl hs]
      refine refHas_s f.a f.b f va vb S T w h ?_ (setB_sane h1) (setB_sane h2)
      rw [ha]
      obtain ⟨sp, u, a, b⟩ := f
      simp only at hs hu
      rw [hs, hu]
    · obtain ⟨_, h1, h2⟩ := leafB_units hl hs
      rw [famR_units hl hs]
      refine refHas_u f.u f.a f va vb S T w h ?_ (setB_sane h1) b1 b2
      rw [ha]
      obtain ⟨sp, u, a, b⟩ := f
      simp only at hs h2
      rw [hs, h2]
  · rw [famR_no hl]
    exact refHas_u 0 [] f va vb S T w h (by unfold asL; rw [if_neg (by rw [hl]; decide)]; rfl) trivial b1 b2
end Go.Proofs.YtfphmhdgnokopaaGreatDoor
