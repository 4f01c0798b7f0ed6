/-
  Contract of leaf.Tidy once more: a span's rows are the call's own; narrow's unitsOf of any leaf of units.
-/
import Derived.Test.YtjdnejglapnbbaaGreatDoorNwG
import Derived.Test.YtjdnejglapnbbaaGreatDoorGLeafA
namespace Go.Proofs.YtjdnejglapnbbaaGreatDoor
open Go.RowKit
set_option linter.unusedVariables false
set_option linter.unusedSimpArgs false
theorem nwUnits_any (K D a b : List R) (u : Int) (vi vd va vb : Value) (w : World) (hi' : RunsAt w vi K) (hd : RunsAt w vd D) (h : LeafOk w ⟨false, u, a, b⟩ va vb) (T : Tabs w) (ik : I64R K) (id' : I64R D) (nK : K.length ≤ 100000) (nD : D.length ≤ 100000) :
    Calls Tryz.prog 122 #[.agg #[vi, vd], leafV ⟨false, u, a, b⟩ va vb] w fun e w' => ∃ v, e = .returned v ∧ OwnR w' w.heap.size v (unsR K D ⟨false, u, a, b⟩) ∧ Kp w w' := by
  by_cases hu : u = 0
  · subst hu; exact nwUnits0_any K D a b vi vd va vb w hi' hd h T ik id' nK nD
  · exact nwUnitsU_any K D a b u hu vi vd va vb w hi' hd h T ik id' nK nD
set_option maxHeartbeats 4000000 in
set_option maxRecDepth 100000 in
theorem leafTidyO_any (f : LF) (va vb : Value) (w : World) (h : LeafOk w f va vb) (T : Tabs w) :
    Calls Tryz.prog 70 #[leafV f va vb] w fun e w' => ∃ va' vb', e = .returned (leafV (lfOf (famR f)) va' vb') ∧ LeafOk w' (lfOf (famR f)) va' vb' ∧ Kp w w' ∧ ((lfOf (famR f)).sp = true → OwnR w' w.heap.size va' (lfOf (famR f)).a ∧ OwnR w' w.heap.size vb' (lfOf (famR f)).b) := by
  have C := Lib.hid (fun w1 (kk : Kp w w1) => famO_any f va vb w1 (h.kp kk) (T.kp kk).2)
  have FK := famR_ok f
  have FL := famR_len h.na h.nb
  have BK := Lib.hid (fun k s => famR_back (f := f) (k := k) (s := s))
  have HO := Lib.hid h
  obtain ⟨sp, u, a, b⟩ := f
  obtain ⟨ad, ca, rfl⟩ := h.a.slice
  obtain ⟨bd, cb, rfl⟩ := h.b.slice
  unfold leafV at C
  rw [show leafV ⟨sp, u, a, b⟩ (.slice ad a.length ca) (.slice bd b.length cb) = .agg #[.bool sp, .int .i64 u, .slice ad a.length ca, .slice bd b.length cb] from rfl]
  simp only at C HO ⊢
  have K0 := Lib.hid ((Kp.alloc w (.cells #[.bool sp, .int .i64 u, .slice ad a.length ca, .slice bd b.length cb] 47)).trans (Kp.alloc _ (.cells #[.bool false, .int .i64 0, .slice none 0 0, .slice none 0 0] 47)))
  generalize famR ⟨sp, u, a, b⟩ = F at *
  clear h T
  have h1 := asUU
  have h2 := asSU
  have h3 := asSS
  have h4 := asUS
  have h5 := isEU
  have h6 := isES
  cases F with
  | units k s =>
    by_cases h0 : s.length = 0
    · have q : ((s.length : Int) == 0) = true := by rw [h0]; rfl
      rw [lfOf_u0 h0]
      clear h0 FK FL BK
      go_enter Tryz.func70, Tryz.ntmps70
      go_wp2_with fail
      refine (C.out _ K0.out).mono ?_
      rintro e w1 ⟨v, rfl, ⟨ad1, c1, rfl, RS⟩, kk⟩
      have hB := (kk.block (w.heap.size + 1) (by simp)).trans (heap_at (w.alloc _) (.cells #[.bool false, .int .i64 0, .slice none 0 0, .slice none 0 0] 47 (0, 0)) (w.heap.size + 1) (by simp))
      have s1 := kk.size
      simp at s1
      have z2 : ¬ w.heap.size + 1 = w1.heap.size := by omega
      have z3 : w.heap.size + 1 < w1.heap.size := by omega
      have z4 : ¬ w.heap.size = w1.heap.size := by omega
      have z5 : w.heap.size < w1.heap.size := by omega
      have r0 : w1.cell? ⟨w.heap.size + 1, 0, none⟩ = some (.bool false) := by simp [World.cell?, hB]
      have r1 : w1.cell? ⟨w.heap.size + 1, 1, none⟩ = some (.int .i64 0) := by simp [World.cell?, hB]
      have r2 : w1.cell? ⟨w.heap.size + 1, 2, none⟩ = some (.slice none 0 0) := by simp [World.cell?, hB]
      have r3 : w1.cell? ⟨w.heap.size + 1, 3, none⟩ = some (.slice none 0 0) := by simp [World.cell?, hB]
      have f0 : w1.frozen? ⟨w.heap.size + 1, 0, none⟩ = false := by simp [World.frozen?, hB]
      have f1 : w1.frozen? ⟨w.heap.size + 1, 1, none⟩ = false := by simp [World.frozen?, hB]
      have f2 : w1.frozen? ⟨w.heap.size + 1, 2, none⟩ = false := by simp [World.frozen?, hB]
      have f3 : w1.frozen? ⟨w.heap.size + 1, 3, none⟩ = false := by simp [World.frozen?, hB]
      have K1 := Lib.hid (K0.out.trans kk)
      clear kk C
      go_wp2
      have RD1 := fun o => set4_read hB (.bool false) (.int .i64 0) (.slice none 0 0) (.slice none 0 0) (Kp.alloc _ o)
      have RD2 := fun o o' => set4_read hB (.bool false) (.int .i64 0) (.slice none 0 0) (.slice none 0 0) ((Kp.alloc _ o).trans (Kp.alloc _ o'))
      exact bodyPost_ret (v := .agg #[.bool false, .int .i64 0, .slice none 0 0, .slice none 0 0]) (by simp [results, Tryz.f70, go_sem, RD1, RD2]) rfl ⟨.slice none 0 0, .slice none 0 0, rfl, lf0_ok _, (set4_below K1.out (w.heap.size + 1) (by omega) _ _ _ _).trans (by first | with_reducible exact Kp.refl _ | with_reducible exact Kp.alloc _ _ | with_reducible exact (Kp.alloc _ _).trans (Kp.alloc _ _) | with_reducible exact ((Kp.alloc _ _).trans (Kp.alloc _ _)).trans (Kp.alloc _ _) | with_reducible exact Kp.drew _ | with_reducible exact Kp.drewN _ _), fun h => by cases h⟩
    · have q : ((s.length : Int) == 0) = false := beq_eq_false_iff_ne.2 (by omega)
      have BB := BK.out k s rfl h0
      simp only [LF.mk.injEq] at BB
      obtain ⟨rfl, rfl, rfl, rfl⟩ := BB
      rw [lfOf_u1 h0]
      clear h0 FK FL BK
      have EB : ([] : List R).length = 0 := rfl
      rw [EB] at HO K0 C ⊢
      clear EB
      go_enter Tryz.func70, Tryz.ntmps70
      go_wp2_with fail
      refine (C.out _ K0.out).mono ?_
      rintro e w1 ⟨v, rfl, ⟨ad1, c1, rfl, RS⟩, kk⟩
      have hB := (kk.block (w.heap.size + 1) (by simp)).trans (heap_at (w.alloc _) (.cells #[.bool false, .int .i64 0, .slice none 0 0, .slice none 0 0] 47 (0, 0)) (w.heap.size + 1) (by simp))
      have s1 := kk.size
      simp at s1
      have z2 : ¬ w.heap.size + 1 = w1.heap.size := by omega
      have z3 : w.heap.size + 1 < w1.heap.size := by omega
      have z4 : ¬ w.heap.size = w1.heap.size := by omega
      have z5 : w.heap.size < w1.heap.size := by omega
      have r0 : w1.cell? ⟨w.heap.size + 1, 0, none⟩ = some (.bool false) := by simp [World.cell?, hB]
      have r1 : w1.cell? ⟨w.heap.size + 1, 1, none⟩ = some (.int .i64 0) := by simp [World.cell?, hB]
      have r2 : w1.cell? ⟨w.heap.size + 1, 2, none⟩ = some (.slice none 0 0) := by simp [World.cell?, hB]
      have r3 : w1.cell? ⟨w.heap.size + 1, 3, none⟩ = some (.slice none 0 0) := by simp [World.cell?, hB]
      have f0 : w1.frozen? ⟨w.heap.size + 1, 0, none⟩ = false := by simp [World.frozen?, hB]
      have f1 : w1.frozen? ⟨w.heap.size + 1, 1, none⟩ = false := by simp [World.frozen?, hB]
      have f2 : w1.frozen? ⟨w.heap.size + 1, 2, none⟩ = false := by simp [World.frozen?, hB]
      have f3 : w1.frozen? ⟨w.heap.size + 1, 3, none⟩ = false := by simp [World.frozen?, hB]
      have c0 := (Below.cell (p := ⟨w.heap.size, 0, none⟩) kk (by simp; omega)).trans (show _ = some (.bool false) by simp)
      have c1' := (Below.cell (p := ⟨w.heap.size, 1, none⟩) kk (by simp; omega)).trans (show _ = some (.int .i64 u) by simp)
      have c2 := (Below.cell (p := ⟨w.heap.size, 2, none⟩) kk (by simp; omega)).trans (show _ = some (.slice ad a.length ca) by simp)
      have c3 := (Below.cell (p := ⟨w.heap.size, 3, none⟩) kk (by simp; omega)).trans (show _ = some (.slice bd 0 cb) by simp)
      have K1 := Lib.hid (K0.out.trans kk)
      clear kk C
      go_wp2
      have RD1 := fun o => set4_read hB (.bool false) (.int .i64 u) (.slice ad a.length ca) (.slice bd 0 cb) (Kp.alloc _ o)
      have RD2 := fun o o' => set4_read hB (.bool false) (.int .i64 u) (.slice ad a.length ca) (.slice bd 0 cb) ((Kp.alloc _ o).trans (Kp.alloc _ o'))
      exact bodyPost_ret (v := .agg #[.bool false, .int .i64 u, .slice ad a.length ca, .slice bd 0 cb]) (by simp [results, Tryz.f70, go_sem, RD1, RD2]) rfl ⟨_, _, rfl, HO.out.kp ((set4_below K1.out (w.heap.size + 1) (by omega) _ _ _ _).trans (by first | with_reducible exact Kp.refl _ | with_reducible exact Kp.alloc _ _ | with_reducible exact (Kp.alloc _ _).trans (Kp.alloc _ _) | with_reducible exact ((Kp.alloc _ _).trans (Kp.alloc _ _)).trans (Kp.alloc _ _) | with_reducible exact Kp.drew _ | with_reducible exact Kp.drewN _ _)), (set4_below K1.out (w.heap.size + 1) (by omega) _ _ _ _).trans (by first | with_reducible exact Kp.refl _ | with_reducible exact Kp.alloc _ _ | with_reducible exact (Kp.alloc _ _).trans (Kp.alloc _ _) | with_reducible exact ((Kp.alloc _ _).trans (Kp.alloc _ _)).trans (Kp.alloc _ _) | with_reducible exact Kp.drew _ | with_reducible exact Kp.drewN _ _), fun h => by cases h⟩
  | span s e =>
    have ss := setB_sane FK.1
    have se := setB_sane FK.2.1
    by_cases h0 : s.length = 0
    · have q : ((s.length : Int) == 0) = true := by rw [h0]; rfl
      rw [lfOf_s0 h0]
      clear h0 FK FL BK
      go_enter Tryz.func70, Tryz.ntmps70
      go_wp2_with fail
      refine (C.out _ K0.out).mono ?_
      rintro e w1 ⟨v, rfl, ⟨ad1, c1, bd1, d1, rfl, RS, RT⟩, kk⟩
      have hB := (kk.block (w.heap.size + 1) (by simp)).trans (heap_at (w.alloc _) (.cells #[.bool false, .int .i64 0, .slice none 0 0, .slice none 0 0] 47 (0, 0)) (w.heap.size + 1) (by simp))
      have s1 := kk.size
      simp at s1
      have z2 : ¬ w.heap.size + 1 = w1.heap.size := by omega
      have z3 : w.heap.size + 1 < w1.heap.size := by omega
      have z4 : ¬ w.heap.size = w1.heap.size := by omega
      have z5 : w.heap.size < w1.heap.size := by omega
      have r0 : w1.cell? ⟨w.heap.size + 1, 0, none⟩ = some (.bool false) := by simp [World.cell?, hB]
      have r1 : w1.cell? ⟨w.heap.size + 1, 1, none⟩ = some (.int .i64 0) := by simp [World.cell?, hB]
      have r2 : w1.cell? ⟨w.heap.size + 1, 2, none⟩ = some (.slice none 0 0) := by simp [World.cell?, hB]
      have r3 : w1.cell? ⟨w.heap.size + 1, 3, none⟩ = some (.slice none 0 0) := by simp [World.cell?, hB]
      have f0 : w1.frozen? ⟨w.heap.size + 1, 0, none⟩ = false := by simp [World.frozen?, hB]
      have f1 : w1.frozen? ⟨w.heap.size + 1, 1, none⟩ = false := by simp [World.frozen?, hB]
      have f2 : w1.frozen? ⟨w.heap.size + 1, 2, none⟩ = false := by simp [World.frozen?, hB]
      have f3 : w1.frozen? ⟨w.heap.size + 1, 3, none⟩ = false := by simp [World.frozen?, hB]
      have K1 := Lib.hid (K0.out.trans kk)
      clear kk C
      go_wp2
      have RD1 := fun o => set4_read hB (.bool false) (.int .i64 0) (.slice none 0 0) (.slice none 0 0) (Kp.alloc _ o)
      have RD2 := fun o o' => set4_read hB (.bool false) (.int .i64 0) (.slice none 0 0) (.slice none 0 0) ((Kp.alloc _ o).trans (Kp.alloc _ o'))
      exact bodyPost_ret (v := .agg #[.bool false, .int .i64 0, .slice none 0 0, .slice none 0 0]) (by simp [results, Tryz.f70, go_sem, RD1, RD2]) rfl ⟨.slice none 0 0, .slice none 0 0, rfl, lf0_ok _, (set4_below K1.out (w.heap.size + 1) (by omega) _ _ _ _).trans (by first | with_reducible exact Kp.refl _ | with_reducible exact Kp.alloc _ _ | with_reducible exact (Kp.alloc _ _).trans (Kp.alloc _ _) | with_reducible exact ((Kp.alloc _ _).trans (Kp.alloc _ _)).trans (Kp.alloc _ _) | with_reducible exact Kp.drew _ | with_reducible exact Kp.drewN _ _), fun h => by cases h⟩
    · have q : ((s.length : Int) == 0) = false := beq_eq_false_iff_ne.2 (by omega)
      rw [lfOf_s1 h0]
      have l1 := FL.1
      have l2 := FL.2
      clear h0 FK FL BK
      go_enter Tryz.func70, Tryz.ntmps70
      go_wp2_with fail
      refine (C.out _ K0.out).mono ?_
      rintro e w1 ⟨v, rfl, ⟨ad1, c1, bd1, d1, rfl, RS, RT⟩, kk⟩
      have hB := (kk.block (w.heap.size + 1) (by simp)).trans (heap_at (w.alloc _) (.cells #[.bool false, .int .i64 0, .slice none 0 0, .slice none 0 0] 47 (0, 0)) (w.heap.size + 1) (by simp))
      have s1 := kk.size
      simp at s1
      have z2 : ¬ w.heap.size + 1 = w1.heap.size := by omega
      have z3 : w.heap.size + 1 < w1.heap.size := by omega
      have z4 : ¬ w.heap.size = w1.heap.size := by omega
      have z5 : w.heap.size < w1.heap.size := by omega
      have r0 : w1.cell? ⟨w.heap.size + 1, 0, none⟩ = some (.bool false) := by simp [World.cell?, hB]
      have r1 : w1.cell? ⟨w.heap.size + 1, 1, none⟩ = some (.int .i64 0) := by simp [World.cell?, hB]
      have r2 : w1.cell? ⟨w.heap.size + 1, 2, none⟩ = some (.slice none 0 0) := by simp [World.cell?, hB]
      have r3 : w1.cell? ⟨w.heap.size + 1, 3, none⟩ = some (.slice none 0 0) := by simp [World.cell?, hB]
      have f0 : w1.frozen? ⟨w.heap.size + 1, 0, none⟩ = false := by simp [World.frozen?, hB]
      have f1 : w1.frozen? ⟨w.heap.size + 1, 1, none⟩ = false := by simp [World.frozen?, hB]
      have f2 : w1.frozen? ⟨w.heap.size + 1, 2, none⟩ = false := by simp [World.frozen?, hB]
      have f3 : w1.frozen? ⟨w.heap.size + 1, 3, none⟩ = false := by simp [World.frozen?, hB]
      have R1 := Lib.hid RS
      have Q1 := Lib.hid RT
      have HBB := Lib.hid hB
      have lb : w.heap.size + 1 < ((w.alloc (.cells #[.bool sp, .int .i64 u, .slice ad a.length ca, .slice bd b.length cb] 47)).alloc (.cells #[.bool false, .int .i64 0, .slice none 0 0, .slice none 0 0] 47)).heap.size := by simp
      clear RS RT
      have K1 := Lib.hid (K0.out.trans kk)
      clear kk C
      go_wp2
      have RD1 := fun o => set4_read hB (.bool true) (.int .i64 0) (.slice ad1 s.length c1) (.slice bd1 e.length d1) (Kp.alloc _ o)
      have RD2 := fun o o' => set4_read hB (.bool true) (.int .i64 0) (.slice ad1 s.length c1) (.slice bd1 e.length d1) ((Kp.alloc _ o).trans (Kp.alloc _ o'))
      exact bodyPost_ret (v := .agg #[.bool true, .int .i64 0, .slice ad1 s.length c1, .slice bd1 e.length d1]) (by simp [results, Tryz.f70, go_sem, RD1, RD2]) rfl ⟨_, _, rfl, ⟨((OwnR.runs R1.out).off HBB.out (set4_cell _ _ _ _ _ _)).kp (by first | with_reducible exact Kp.refl _ | with_reducible exact Kp.alloc _ _ | with_reducible exact (Kp.alloc _ _).trans (Kp.alloc _ _) | with_reducible exact ((Kp.alloc _ _).trans (Kp.alloc _ _)).trans (Kp.alloc _ _) | with_reducible exact Kp.drew _ | with_reducible exact Kp.drewN _ _), ((OwnR.runs Q1.out).off HBB.out (set4_cell _ _ _ _ _ _)).kp (by first | with_reducible exact Kp.refl _ | with_reducible exact Kp.alloc _ _ | with_reducible exact (Kp.alloc _ _).trans (Kp.alloc _ _) | with_reducible exact ((Kp.alloc _ _).trans (Kp.alloc _ _)).trans (Kp.alloc _ _) | with_reducible exact Kp.drew _ | with_reducible exact Kp.drewN _ _), sane_i64 ss, sane_i64 se, l1, l2⟩, (set4_below K1.out (w.heap.size + 1) (by omega) _ _ _ _).trans (by first | with_reducible exact Kp.refl _ | with_reducible exact Kp.alloc _ _ | with_reducible exact (Kp.alloc _ _).trans (Kp.alloc _ _) | with_reducible exact ((Kp.alloc _ _).trans (Kp.alloc _ _)).trans (Kp.alloc _ _) | with_reducible exact Kp.drew _ | with_reducible exact Kp.drewN _ _), fun _ => ⟨own_mono (own_kp (own_setB (own_setB (own_setB (own_setB R1.out lb 0 _) lb 1 _) lb 2 _) lb 3 _) (by first | with_reducible exact Kp.refl _ | with_reducible exact Kp.alloc _ _ | with_reducible exact (Kp.alloc _ _).trans (Kp.alloc _ _) | with_reducible exact ((Kp.alloc _ _).trans (Kp.alloc _ _)).trans (Kp.alloc _ _) | with_reducible exact Kp.drew _ | with_reducible exact Kp.drewN _ _)) (Nat.le_trans (Nat.le_succ _) (Nat.le_of_lt lb)), own_mono (own_kp (own_setB (own_setB (own_setB (own_setB Q1.out lb 0 _) lb 1 _) lb 2 _) lb 3 _) (by first | with_reducible exact Kp.refl _ | with_reducible exact Kp.alloc _ _ | with_reducible exact (Kp.alloc _ _).trans (Kp.alloc _ _) | with_reducible exact ((Kp.alloc _ _).trans (Kp.alloc _ _)).trans (Kp.alloc _ _) | with_reducible exact Kp.drew _ | with_reducible exact Kp.drewN _ _)) (Nat.le_trans (Nat.le_succ _) (Nat.le_of_lt lb))⟩⟩
end Go.Proofs.YtjdnejglapnbbaaGreatDoor
